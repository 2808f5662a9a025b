/- What FuseInto comes to; its contracts. -/
import Derived.Test.YtaggohibfghnmaaX910
import Derived.WalkKit
import Derived.WalkSpells
import Derived.WalkLawsBesides
import Derived.Deep.RegionHeld
namespace Go.Proofs.Ytaggohibfghnmaa
open Go.RowKit
set_option linter.unusedVariables false
theorem meetB_comm (a b c d : Int) : meetB a b c d = meetB c d a b := by
  simp only [meetB, okII]
  rw [imx_comm a c, imn_comm b d, Bool.and_comm (okI a b)]
def fuBad (ol oh : Int) (kn : Bool) (f : Nat → Int × Int) (n : Nat) (ff le : Int) : Bool := !(srcB f n) || decide (ff < 0) || decide (le < 1) || (kn && !(okI ol oh))
def fuFew (n : Nat) (ff le : Int) : Bool := decide ((n : Int) < le) || decide ((n : Int) ≤ ff)
def fuC (ol oh : Int) (kn : Bool) (f : Nat → Int × Int) (n : Nat) (ff le : Int) : Int :=
  if fuBad ol oh kn f n ff le then 1 else if fuFew n ff le then 2 else if hlB (rnL f n ((n : Int) - ff)) = false then 3 else if kn = false then 0 else if meetB ol oh (hlL (rnL f n ((n : Int) - ff))) (hlH (rnL f n ((n : Int) - ff))) then 0 else 4
def fuL (ol oh : Int) (kn : Bool) (f : Nat → Int × Int) (n : Nat) (ff le : Int) : Int :=
  if fuC ol oh kn f n ff le = 0 then (if kn then imx ol (hlL (rnL f n ((n : Int) - ff))) else hlL (rnL f n ((n : Int) - ff))) else 0
def fuH (ol oh : Int) (kn : Bool) (f : Nat → Int × Int) (n : Nat) (ff le : Int) : Int :=
  if fuC ol oh kn f n ff le = 0 then (if kn then imn oh (hlH (rnL f n ((n : Int) - ff))) else hlH (rnL f n ((n : Int) - ff))) else 0
set_option maxRecDepth 100000 in
set_option maxHeartbeats 2000000 in
theorem implFuse_a (ol oh : Int) (a : Option Addr) (n c : Nat) (f : Nat → Int × Int) (ff le : Int) (w : World) (hm : n ≤ maxLen) (hs : Src w a n f) (kn : Bool) (hsb : srcB f n = false) :
    Calls Try.prog 10 #[.agg #[.int .i64 ol, .int .i64 oh], .bool kn, .slice a n c, .int .i64 ff, .int .i64 le] w fun e w' => e = .returned (.tuple #[.agg #[.int .i64 0, .int .i64 0], .int .i64 1]) ∧ Below w.heap.size w w' := by
  have HS : Hid (Src w a n f) := hs
  have O := (Vb.new w ol oh 25).below (Below.al9 (w.alloc (.cells #[.int .i64 ol, .int .i64 oh] 25)) (.cells #[.int .i64 0, .int .i64 0] 25))
  have R := Vb.new (w.alloc (.cells #[.int .i64 ol, .int .i64 oh] 25)) 0 0 25
  simp only [World.size_alloc] at R
  have B := (Below.al9 w (.cells #[.int .i64 ol, .int .i64 oh] 25)).trans ((Below.al9 (w.alloc (.cells #[.int .i64 ol, .int .i64 oh] 25)) (.cells #[.int .i64 0, .int .i64 0] 25)).mono (by simp))
  have CS := implSources a n c f ((w.alloc (.cells #[.int .i64 ol, .int .i64 oh] 25)).alloc (.cells #[.int .i64 0, .int .i64 0] 25)) hm (HS.out.below B)
  unfold maxLen at hm
  go_enter Try.func10, Try.ntmps10
  go_wp2_with fail
  refine CS.mono ?_
  rintro e w1 ⟨rfl, hb⟩
  rw [hsb]
  replace O := O.below hb
  replace R := R.below hb
  replace B := B.trans (hb.mono B.size)
  clear hb CS
  have B9 : Below w.heap.size w ((w1.setCell ⟨w.heap.size + 1, 0, none⟩ (.int .i64 0)).setCell ⟨w.heap.size + 1, 1, none⟩ (.int .i64 0)) := Below.put2 B (Nat.le_succ _) 0 0
  have R9 : Vb ((w1.setCell ⟨w.heap.size + 1, 0, none⟩ (.int .i64 0)).setCell ⟨w.heap.size + 1, 1, none⟩ (.int .i64 0)) (w.heap.size + 1) 0 0 := R.put 0 0
  obtain ⟨r0, r1, r2, r3, r4⟩ := R
  go_wp2_with fail
  generalize ((w1.setCell ⟨w.heap.size + 1, 0, none⟩ (.int .i64 0)).setCell ⟨w.heap.size + 1, 1, none⟩ (.int .i64 0)) = w9 at *
  obtain ⟨m0, m1, m2, m3, m4⟩ := R9
  exact bodyPost_ret (v := .tuple #[.agg #[.int .i64 0, .int .i64 0], .int .i64 1]) (by simp (maxDischargeDepth := 6) [results, Try.results10, go_sem, m1, m2]) rfl ⟨rfl, B9⟩
set_option maxRecDepth 100000 in
set_option maxHeartbeats 2000000 in
theorem implFuse_b (ol oh : Int) (a : Option Addr) (n c : Nat) (f : Nat → Int × Int) (ff le : Int) (w : World) (hm : n ≤ maxLen) (hs : Src w a n f) (kn : Bool) (hsb : srcB f n = true) (hf0 : ff < 0) :
    Calls Try.prog 10 #[.agg #[.int .i64 ol, .int .i64 oh], .bool kn, .slice a n c, .int .i64 ff, .int .i64 le] w fun e w' => e = .returned (.tuple #[.agg #[.int .i64 0, .int .i64 0], .int .i64 1]) ∧ Below w.heap.size w w' := by
  have HS : Hid (Src w a n f) := hs
  have O := (Vb.new w ol oh 25).below (Below.al9 (w.alloc (.cells #[.int .i64 ol, .int .i64 oh] 25)) (.cells #[.int .i64 0, .int .i64 0] 25))
  have R := Vb.new (w.alloc (.cells #[.int .i64 ol, .int .i64 oh] 25)) 0 0 25
  simp only [World.size_alloc] at R
  have B := (Below.al9 w (.cells #[.int .i64 ol, .int .i64 oh] 25)).trans ((Below.al9 (w.alloc (.cells #[.int .i64 ol, .int .i64 oh] 25)) (.cells #[.int .i64 0, .int .i64 0] 25)).mono (by simp))
  have CS := implSources a n c f ((w.alloc (.cells #[.int .i64 ol, .int .i64 oh] 25)).alloc (.cells #[.int .i64 0, .int .i64 0] 25)) hm (HS.out.below B)
  unfold maxLen at hm
  go_enter Try.func10, Try.ntmps10
  go_wp2_with fail
  refine CS.mono ?_
  rintro e w1 ⟨rfl, hb⟩
  rw [hsb]
  replace O := O.below hb
  replace R := R.below hb
  replace B := B.trans (hb.mono B.size)
  clear hb CS
  have B9 : Below w.heap.size w ((w1.setCell ⟨w.heap.size + 1, 0, none⟩ (.int .i64 0)).setCell ⟨w.heap.size + 1, 1, none⟩ (.int .i64 0)) := Below.put2 B (Nat.le_succ _) 0 0
  have R9 : Vb ((w1.setCell ⟨w.heap.size + 1, 0, none⟩ (.int .i64 0)).setCell ⟨w.heap.size + 1, 1, none⟩ (.int .i64 0)) (w.heap.size + 1) 0 0 := R.put 0 0
  obtain ⟨r0, r1, r2, r3, r4⟩ := R
  go_wp2_with fail
  generalize ((w1.setCell ⟨w.heap.size + 1, 0, none⟩ (.int .i64 0)).setCell ⟨w.heap.size + 1, 1, none⟩ (.int .i64 0)) = w9 at *
  obtain ⟨m0, m1, m2, m3, m4⟩ := R9
  exact bodyPost_ret (v := .tuple #[.agg #[.int .i64 0, .int .i64 0], .int .i64 1]) (by simp (maxDischargeDepth := 6) [results, Try.results10, go_sem, m1, m2]) rfl ⟨rfl, B9⟩
set_option maxRecDepth 100000 in
set_option maxHeartbeats 2000000 in
theorem implFuse_c (ol oh : Int) (a : Option Addr) (n c : Nat) (f : Nat → Int × Int) (ff le : Int) (w : World) (hm : n ≤ maxLen) (hs : Src w a n f) (kn : Bool) (hsb : srcB f n = true) (hf0 : 0 ≤ ff) (hl1 : le < 1) :
    Calls Try.prog 10 #[.agg #[.int .i64 ol, .int .i64 oh], .bool kn, .slice a n c, .int .i64 ff, .int .i64 le] w fun e w' => e = .returned (.tuple #[.agg #[.int .i64 0, .int .i64 0], .int .i64 1]) ∧ Below w.heap.size w w' := by
  have HS : Hid (Src w a n f) := hs
  have O := (Vb.new w ol oh 25).below (Below.al9 (w.alloc (.cells #[.int .i64 ol, .int .i64 oh] 25)) (.cells #[.int .i64 0, .int .i64 0] 25))
  have R := Vb.new (w.alloc (.cells #[.int .i64 ol, .int .i64 oh] 25)) 0 0 25
  simp only [World.size_alloc] at R
  have B := (Below.al9 w (.cells #[.int .i64 ol, .int .i64 oh] 25)).trans ((Below.al9 (w.alloc (.cells #[.int .i64 ol, .int .i64 oh] 25)) (.cells #[.int .i64 0, .int .i64 0] 25)).mono (by simp))
  have CS := implSources a n c f ((w.alloc (.cells #[.int .i64 ol, .int .i64 oh] 25)).alloc (.cells #[.int .i64 0, .int .i64 0] 25)) hm (HS.out.below B)
  unfold maxLen at hm
  go_enter Try.func10, Try.ntmps10
  go_wp2_with fail
  refine CS.mono ?_
  rintro e w1 ⟨rfl, hb⟩
  rw [hsb]
  replace O := O.below hb
  replace R := R.below hb
  replace B := B.trans (hb.mono B.size)
  clear hb CS
  have B9 : Below w.heap.size w ((w1.setCell ⟨w.heap.size + 1, 0, none⟩ (.int .i64 0)).setCell ⟨w.heap.size + 1, 1, none⟩ (.int .i64 0)) := Below.put2 B (Nat.le_succ _) 0 0
  have R9 : Vb ((w1.setCell ⟨w.heap.size + 1, 0, none⟩ (.int .i64 0)).setCell ⟨w.heap.size + 1, 1, none⟩ (.int .i64 0)) (w.heap.size + 1) 0 0 := R.put 0 0
  obtain ⟨r0, r1, r2, r3, r4⟩ := R
  go_wp2_with fail
  generalize ((w1.setCell ⟨w.heap.size + 1, 0, none⟩ (.int .i64 0)).setCell ⟨w.heap.size + 1, 1, none⟩ (.int .i64 0)) = w9 at *
  obtain ⟨m0, m1, m2, m3, m4⟩ := R9
  exact bodyPost_ret (v := .tuple #[.agg #[.int .i64 0, .int .i64 0], .int .i64 1]) (by simp (maxDischargeDepth := 6) [results, Try.results10, go_sem, m1, m2]) rfl ⟨rfl, B9⟩
set_option maxRecDepth 100000 in
set_option maxHeartbeats 2000000 in
theorem implFuse_d (ol oh : Int) (a : Option Addr) (n c : Nat) (f : Nat → Int × Int) (ff le : Int) (w : World) (hm : n ≤ maxLen) (hs : Src w a n f) (hsb : srcB f n = true) (hf0 : 0 ≤ ff) (hl1 : 1 ≤ le) (hok : okI ol oh = false) :
    Calls Try.prog 10 #[.agg #[.int .i64 ol, .int .i64 oh], .bool true, .slice a n c, .int .i64 ff, .int .i64 le] w fun e w' => e = .returned (.tuple #[.agg #[.int .i64 0, .int .i64 0], .int .i64 1]) ∧ Below w.heap.size w w' := by
  have HS : Hid (Src w a n f) := hs
  have O := (Vb.new w ol oh 25).below (Below.al9 (w.alloc (.cells #[.int .i64 ol, .int .i64 oh] 25)) (.cells #[.int .i64 0, .int .i64 0] 25))
  have R := Vb.new (w.alloc (.cells #[.int .i64 ol, .int .i64 oh] 25)) 0 0 25
  simp only [World.size_alloc] at R
  have B := (Below.al9 w (.cells #[.int .i64 ol, .int .i64 oh] 25)).trans ((Below.al9 (w.alloc (.cells #[.int .i64 ol, .int .i64 oh] 25)) (.cells #[.int .i64 0, .int .i64 0] 25)).mono (by simp))
  have CS := implSources a n c f ((w.alloc (.cells #[.int .i64 ol, .int .i64 oh] 25)).alloc (.cells #[.int .i64 0, .int .i64 0] 25)) hm (HS.out.below B)
  unfold maxLen at hm
  go_enter Try.func10, Try.ntmps10
  go_wp2_with fail
  refine CS.mono ?_
  rintro e w1 ⟨rfl, hb⟩
  rw [hsb]
  replace O := O.below hb
  replace R := R.below hb
  replace B := B.trans (hb.mono B.size)
  clear hb CS
  obtain ⟨o0, o1, o2, o3, o4⟩ := id O
  go_wp2_with fail
  refine (ok_any _ _ _).mono ?_
  rintro e w2 ⟨rfl, hb⟩
  rw [hok]
  clear o0 o1 o2 o3 o4
  replace O := O.below hb
  replace R := R.below hb
  replace B := B.trans (hb.mono B.size)
  clear hb
  have B9 : Below w.heap.size w ((w2.setCell ⟨w.heap.size + 1, 0, none⟩ (.int .i64 0)).setCell ⟨w.heap.size + 1, 1, none⟩ (.int .i64 0)) := Below.put2 B (Nat.le_succ _) 0 0
  have R9 : Vb ((w2.setCell ⟨w.heap.size + 1, 0, none⟩ (.int .i64 0)).setCell ⟨w.heap.size + 1, 1, none⟩ (.int .i64 0)) (w.heap.size + 1) 0 0 := R.put 0 0
  obtain ⟨r0, r1, r2, r3, r4⟩ := R
  go_wp2_with fail
  generalize ((w2.setCell ⟨w.heap.size + 1, 0, none⟩ (.int .i64 0)).setCell ⟨w.heap.size + 1, 1, none⟩ (.int .i64 0)) = w9 at *
  obtain ⟨m0, m1, m2, m3, m4⟩ := R9
  exact bodyPost_ret (v := .tuple #[.agg #[.int .i64 0, .int .i64 0], .int .i64 1]) (by simp (maxDischargeDepth := 6) [results, Try.results10, go_sem, m1, m2]) rfl ⟨rfl, B9⟩
set_option maxRecDepth 100000 in
set_option maxHeartbeats 2000000 in
theorem implFuse_et (ol oh : Int) (a : Option Addr) (n c : Nat) (f : Nat → Int × Int) (ff le : Int) (w : World) (hm : n ≤ maxLen) (hs : Src w a n f) (hsb : srcB f n = true) (hf0 : 0 ≤ ff) (hl1 : 1 ≤ le) (hok : okI ol oh = true) (hn1 : (n : Int) < le) :
    Calls Try.prog 10 #[.agg #[.int .i64 ol, .int .i64 oh], .bool true, .slice a n c, .int .i64 ff, .int .i64 le] w fun e w' => e = .returned (.tuple #[.agg #[.int .i64 0, .int .i64 0], .int .i64 2]) ∧ Below w.heap.size w w' := by
  have HS : Hid (Src w a n f) := hs
  have O := (Vb.new w ol oh 25).below (Below.al9 (w.alloc (.cells #[.int .i64 ol, .int .i64 oh] 25)) (.cells #[.int .i64 0, .int .i64 0] 25))
  have R := Vb.new (w.alloc (.cells #[.int .i64 ol, .int .i64 oh] 25)) 0 0 25
  simp only [World.size_alloc] at R
  have B := (Below.al9 w (.cells #[.int .i64 ol, .int .i64 oh] 25)).trans ((Below.al9 (w.alloc (.cells #[.int .i64 ol, .int .i64 oh] 25)) (.cells #[.int .i64 0, .int .i64 0] 25)).mono (by simp))
  have CS := implSources a n c f ((w.alloc (.cells #[.int .i64 ol, .int .i64 oh] 25)).alloc (.cells #[.int .i64 0, .int .i64 0] 25)) hm (HS.out.below B)
  unfold maxLen at hm
  go_enter Try.func10, Try.ntmps10
  go_wp2_with fail
  refine CS.mono ?_
  rintro e w1 ⟨rfl, hb⟩
  rw [hsb]
  replace O := O.below hb
  replace R := R.below hb
  replace B := B.trans (hb.mono B.size)
  clear hb CS
  obtain ⟨o0, o1, o2, o3, o4⟩ := id O
  go_wp2_with fail
  refine (ok_any _ _ _).mono ?_
  rintro e w2 ⟨rfl, hb⟩
  rw [hok]
  clear o0 o1 o2 o3 o4
  replace O := O.below hb
  replace R := R.below hb
  replace B := B.trans (hb.mono B.size)
  clear hb
  have B9 : Below w.heap.size w ((w2.setCell ⟨w.heap.size + 1, 0, none⟩ (.int .i64 0)).setCell ⟨w.heap.size + 1, 1, none⟩ (.int .i64 0)) := Below.put2 B (Nat.le_succ _) 0 0
  have R9 : Vb ((w2.setCell ⟨w.heap.size + 1, 0, none⟩ (.int .i64 0)).setCell ⟨w.heap.size + 1, 1, none⟩ (.int .i64 0)) (w.heap.size + 1) 0 0 := R.put 0 0
  obtain ⟨r0, r1, r2, r3, r4⟩ := R
  go_wp2_with fail
  generalize ((w2.setCell ⟨w.heap.size + 1, 0, none⟩ (.int .i64 0)).setCell ⟨w.heap.size + 1, 1, none⟩ (.int .i64 0)) = w9 at *
  obtain ⟨m0, m1, m2, m3, m4⟩ := R9
  exact bodyPost_ret (v := .tuple #[.agg #[.int .i64 0, .int .i64 0], .int .i64 2]) (by simp (maxDischargeDepth := 6) [results, Try.results10, go_sem, m1, m2]) rfl ⟨rfl, B9⟩
set_option maxRecDepth 100000 in
set_option maxHeartbeats 2000000 in
theorem implFuse_gt (ol oh : Int) (a : Option Addr) (n c : Nat) (f : Nat → Int × Int) (ff le : Int) (w : World) (hm : n ≤ maxLen) (hs : Src w a n f) (hsb : srcB f n = true) (hf0 : 0 ≤ ff) (hl1 : 1 ≤ le) (hok : okI ol oh = true) (hn1 : le ≤ (n : Int)) (hn2 : (n : Int) ≤ ff) :
    Calls Try.prog 10 #[.agg #[.int .i64 ol, .int .i64 oh], .bool true, .slice a n c, .int .i64 ff, .int .i64 le] w fun e w' => e = .returned (.tuple #[.agg #[.int .i64 0, .int .i64 0], .int .i64 2]) ∧ Below w.heap.size w w' := by
  have HS : Hid (Src w a n f) := hs
  have O := (Vb.new w ol oh 25).below (Below.al9 (w.alloc (.cells #[.int .i64 ol, .int .i64 oh] 25)) (.cells #[.int .i64 0, .int .i64 0] 25))
  have R := Vb.new (w.alloc (.cells #[.int .i64 ol, .int .i64 oh] 25)) 0 0 25
  simp only [World.size_alloc] at R
  have B := (Below.al9 w (.cells #[.int .i64 ol, .int .i64 oh] 25)).trans ((Below.al9 (w.alloc (.cells #[.int .i64 ol, .int .i64 oh] 25)) (.cells #[.int .i64 0, .int .i64 0] 25)).mono (by simp))
  have CS := implSources a n c f ((w.alloc (.cells #[.int .i64 ol, .int .i64 oh] 25)).alloc (.cells #[.int .i64 0, .int .i64 0] 25)) hm (HS.out.below B)
  unfold maxLen at hm
  go_enter Try.func10, Try.ntmps10
  go_wp2_with fail
  refine CS.mono ?_
  rintro e w1 ⟨rfl, hb⟩
  rw [hsb]
  replace O := O.below hb
  replace R := R.below hb
  replace B := B.trans (hb.mono B.size)
  clear hb CS
  obtain ⟨o0, o1, o2, o3, o4⟩ := id O
  go_wp2_with fail
  refine (ok_any _ _ _).mono ?_
  rintro e w2 ⟨rfl, hb⟩
  rw [hok]
  clear o0 o1 o2 o3 o4
  replace O := O.below hb
  replace R := R.below hb
  replace B := B.trans (hb.mono B.size)
  clear hb
  have B9 : Below w.heap.size w ((w2.setCell ⟨w.heap.size + 1, 0, none⟩ (.int .i64 0)).setCell ⟨w.heap.size + 1, 1, none⟩ (.int .i64 0)) := Below.put2 B (Nat.le_succ _) 0 0
  have R9 : Vb ((w2.setCell ⟨w.heap.size + 1, 0, none⟩ (.int .i64 0)).setCell ⟨w.heap.size + 1, 1, none⟩ (.int .i64 0)) (w.heap.size + 1) 0 0 := R.put 0 0
  obtain ⟨r0, r1, r2, r3, r4⟩ := R
  go_wp2_with fail
  generalize ((w2.setCell ⟨w.heap.size + 1, 0, none⟩ (.int .i64 0)).setCell ⟨w.heap.size + 1, 1, none⟩ (.int .i64 0)) = w9 at *
  obtain ⟨m0, m1, m2, m3, m4⟩ := R9
  exact bodyPost_ret (v := .tuple #[.agg #[.int .i64 0, .int .i64 0], .int .i64 2]) (by simp (maxDischargeDepth := 6) [results, Try.results10, go_sem, m1, m2]) rfl ⟨rfl, B9⟩
set_option maxRecDepth 100000 in
set_option maxHeartbeats 2000000 in
theorem implFuse_ht (ol oh : Int) (a : Option Addr) (n c : Nat) (f : Nat → Int × Int) (ff le : Int) (w : World) (hm : n ≤ maxLen) (hs : Src w a n f) (hsb : srcB f n = true) (hf0 : 0 ≤ ff) (hl1 : 1 ≤ le) (hok : okI ol oh = true) (hn1 : le ≤ (n : Int)) (hn2 : ff < (n : Int)) (hhb : hlB (rnL f n ((n : Int) - ff)) = false) :
    Calls Try.prog 10 #[.agg #[.int .i64 ol, .int .i64 oh], .bool true, .slice a n c, .int .i64 ff, .int .i64 le] w fun e w' => e = .returned (.tuple #[.agg #[.int .i64 0, .int .i64 0], .int .i64 3]) ∧ Below w.heap.size w w' := by
  have HS : Hid (Src w a n f) := hs
  have O := (Vb.new w ol oh 25).below (Below.al9 (w.alloc (.cells #[.int .i64 ol, .int .i64 oh] 25)) (.cells #[.int .i64 0, .int .i64 0] 25))
  have R := Vb.new (w.alloc (.cells #[.int .i64 ol, .int .i64 oh] 25)) 0 0 25
  simp only [World.size_alloc] at R
  have B := (Below.al9 w (.cells #[.int .i64 ol, .int .i64 oh] 25)).trans ((Below.al9 (w.alloc (.cells #[.int .i64 ol, .int .i64 oh] 25)) (.cells #[.int .i64 0, .int .i64 0] 25)).mono (by simp))
  have CS := implSources a n c f ((w.alloc (.cells #[.int .i64 ol, .int .i64 oh] 25)).alloc (.cells #[.int .i64 0, .int .i64 0] 25)) hm (HS.out.below B)
  have CH := fun (v : World) (hb : Below w.heap.size w v) => implHull a n c f ((n : Int) - ff) v hm (HS.out.below hb)
  have hn12 := (srcB_le hsb).1
  rw [hhb] at CH
  generalize hlL (rnL f n ((n : Int) - ff)) = xl at *
  generalize hlH (rnL f n ((n : Int) - ff)) = xh at *
  unfold maxLen at hm
  go_enter Try.func10, Try.ntmps10
  go_wp2_with fail
  refine CS.mono ?_
  rintro e w1 ⟨rfl, hb⟩
  rw [hsb]
  replace O := O.below hb
  replace R := R.below hb
  replace B := B.trans (hb.mono B.size)
  clear hb CS
  obtain ⟨o0, o1, o2, o3, o4⟩ := id O
  go_wp2_with fail
  refine (ok_any _ _ _).mono ?_
  rintro e w2 ⟨rfl, hb⟩
  rw [hok]
  clear o0 o1 o2 o3 o4
  replace O := O.below hb
  replace R := R.below hb
  replace B := B.trans (hb.mono B.size)
  clear hb
  go_wp2_with fail
  refine (CH _ B).mono ?_
  rintro e w3 ⟨rfl, hb⟩
  replace O := O.below hb
  replace R := R.below hb
  replace B := B.trans (hb.mono B.size)
  clear hb CH
  have A := Below.al9 w3 (.cells #[.int .i64 xl, .int .i64 xh] 25)
  have X := Vb.new w3 xl xh 25
  have hj3 := R.1
  replace O := O.below A
  replace R := R.below A
  replace B := B.trans (A.mono B.size)
  clear A
  go_upto_region 6 with fail
  generalize hs3 : w3.heap.size = j3 at *
  generalize w3.alloc (.cells #[.int .i64 xl, .int .i64 xh] 25) = v3 at *
  clear hs3
  have B9 : Below w.heap.size w ((v3.setCell ⟨w.heap.size + 1, 0, none⟩ (.int .i64 0)).setCell ⟨w.heap.size + 1, 1, none⟩ (.int .i64 0)) := Below.put2 B (Nat.le_succ _) 0 0
  have R9 : Vb ((v3.setCell ⟨w.heap.size + 1, 0, none⟩ (.int .i64 0)).setCell ⟨w.heap.size + 1, 1, none⟩ (.int .i64 0)) (w.heap.size + 1) 0 0 := R.put 0 0
  obtain ⟨r0, r1, r2, r3, r4⟩ := R
  go_wp2_with fail
  generalize ((v3.setCell ⟨w.heap.size + 1, 0, none⟩ (.int .i64 0)).setCell ⟨w.heap.size + 1, 1, none⟩ (.int .i64 0)) = w9 at *
  obtain ⟨m0, m1, m2, m3, m4⟩ := R9
  exact bodyPost_ret (v := .tuple #[.agg #[.int .i64 0, .int .i64 0], .int .i64 3]) (by simp (maxDischargeDepth := 6) [results, Try.results10, go_sem, m1, m2]) rfl ⟨rfl, B9⟩
set_option maxRecDepth 100000 in
set_option maxHeartbeats 2000000 in
theorem implFuse_ef (ol oh : Int) (a : Option Addr) (n c : Nat) (f : Nat → Int × Int) (ff le : Int) (w : World) (hm : n ≤ maxLen) (hs : Src w a n f) (hsb : srcB f n = true) (hf0 : 0 ≤ ff) (hl1 : 1 ≤ le) (hn1 : (n : Int) < le) :
    Calls Try.prog 10 #[.agg #[.int .i64 ol, .int .i64 oh], .bool false, .slice a n c, .int .i64 ff, .int .i64 le] w fun e w' => e = .returned (.tuple #[.agg #[.int .i64 0, .int .i64 0], .int .i64 2]) ∧ Below w.heap.size w w' := by
  have HS : Hid (Src w a n f) := hs
  have O := (Vb.new w ol oh 25).below (Below.al9 (w.alloc (.cells #[.int .i64 ol, .int .i64 oh] 25)) (.cells #[.int .i64 0, .int .i64 0] 25))
  have R := Vb.new (w.alloc (.cells #[.int .i64 ol, .int .i64 oh] 25)) 0 0 25
  simp only [World.size_alloc] at R
  have B := (Below.al9 w (.cells #[.int .i64 ol, .int .i64 oh] 25)).trans ((Below.al9 (w.alloc (.cells #[.int .i64 ol, .int .i64 oh] 25)) (.cells #[.int .i64 0, .int .i64 0] 25)).mono (by simp))
  have CS := implSources a n c f ((w.alloc (.cells #[.int .i64 ol, .int .i64 oh] 25)).alloc (.cells #[.int .i64 0, .int .i64 0] 25)) hm (HS.out.below B)
  unfold maxLen at hm
  go_enter Try.func10, Try.ntmps10
  go_wp2_with fail
  refine CS.mono ?_
  rintro e w1 ⟨rfl, hb⟩
  rw [hsb]
  replace O := O.below hb
  replace R := R.below hb
  replace B := B.trans (hb.mono B.size)
  clear hb CS
  have B9 : Below w.heap.size w ((w1.setCell ⟨w.heap.size + 1, 0, none⟩ (.int .i64 0)).setCell ⟨w.heap.size + 1, 1, none⟩ (.int .i64 0)) := Below.put2 B (Nat.le_succ _) 0 0
  have R9 : Vb ((w1.setCell ⟨w.heap.size + 1, 0, none⟩ (.int .i64 0)).setCell ⟨w.heap.size + 1, 1, none⟩ (.int .i64 0)) (w.heap.size + 1) 0 0 := R.put 0 0
  obtain ⟨r0, r1, r2, r3, r4⟩ := R
  go_wp2_with fail
  generalize ((w1.setCell ⟨w.heap.size + 1, 0, none⟩ (.int .i64 0)).setCell ⟨w.heap.size + 1, 1, none⟩ (.int .i64 0)) = w9 at *
  obtain ⟨m0, m1, m2, m3, m4⟩ := R9
  exact bodyPost_ret (v := .tuple #[.agg #[.int .i64 0, .int .i64 0], .int .i64 2]) (by simp (maxDischargeDepth := 6) [results, Try.results10, go_sem, m1, m2]) rfl ⟨rfl, B9⟩
set_option maxRecDepth 100000 in
set_option maxHeartbeats 2000000 in
theorem implFuse_gf (ol oh : Int) (a : Option Addr) (n c : Nat) (f : Nat → Int × Int) (ff le : Int) (w : World) (hm : n ≤ maxLen) (hs : Src w a n f) (hsb : srcB f n = true) (hf0 : 0 ≤ ff) (hl1 : 1 ≤ le) (hn1 : le ≤ (n : Int)) (hn2 : (n : Int) ≤ ff) :
    Calls Try.prog 10 #[.agg #[.int .i64 ol, .int .i64 oh], .bool false, .slice a n c, .int .i64 ff, .int .i64 le] w fun e w' => e = .returned (.tuple #[.agg #[.int .i64 0, .int .i64 0], .int .i64 2]) ∧ Below w.heap.size w w' := by
  have HS : Hid (Src w a n f) := hs
  have O := (Vb.new w ol oh 25).below (Below.al9 (w.alloc (.cells #[.int .i64 ol, .int .i64 oh] 25)) (.cells #[.int .i64 0, .int .i64 0] 25))
  have R := Vb.new (w.alloc (.cells #[.int .i64 ol, .int .i64 oh] 25)) 0 0 25
  simp only [World.size_alloc] at R
  have B := (Below.al9 w (.cells #[.int .i64 ol, .int .i64 oh] 25)).trans ((Below.al9 (w.alloc (.cells #[.int .i64 ol, .int .i64 oh] 25)) (.cells #[.int .i64 0, .int .i64 0] 25)).mono (by simp))
  have CS := implSources a n c f ((w.alloc (.cells #[.int .i64 ol, .int .i64 oh] 25)).alloc (.cells #[.int .i64 0, .int .i64 0] 25)) hm (HS.out.below B)
  unfold maxLen at hm
  go_enter Try.func10, Try.ntmps10
  go_wp2_with fail
  refine CS.mono ?_
  rintro e w1 ⟨rfl, hb⟩
  rw [hsb]
  replace O := O.below hb
  replace R := R.below hb
  replace B := B.trans (hb.mono B.size)
  clear hb CS
  have B9 : Below w.heap.size w ((w1.setCell ⟨w.heap.size + 1, 0, none⟩ (.int .i64 0)).setCell ⟨w.heap.size + 1, 1, none⟩ (.int .i64 0)) := Below.put2 B (Nat.le_succ _) 0 0
  have R9 : Vb ((w1.setCell ⟨w.heap.size + 1, 0, none⟩ (.int .i64 0)).setCell ⟨w.heap.size + 1, 1, none⟩ (.int .i64 0)) (w.heap.size + 1) 0 0 := R.put 0 0
  obtain ⟨r0, r1, r2, r3, r4⟩ := R
  go_wp2_with fail
  generalize ((w1.setCell ⟨w.heap.size + 1, 0, none⟩ (.int .i64 0)).setCell ⟨w.heap.size + 1, 1, none⟩ (.int .i64 0)) = w9 at *
  obtain ⟨m0, m1, m2, m3, m4⟩ := R9
  exact bodyPost_ret (v := .tuple #[.agg #[.int .i64 0, .int .i64 0], .int .i64 2]) (by simp (maxDischargeDepth := 6) [results, Try.results10, go_sem, m1, m2]) rfl ⟨rfl, B9⟩
set_option maxRecDepth 100000 in
set_option maxHeartbeats 2000000 in
theorem implFuse_hf (ol oh : Int) (a : Option Addr) (n c : Nat) (f : Nat → Int × Int) (ff le : Int) (w : World) (hm : n ≤ maxLen) (hs : Src w a n f) (hsb : srcB f n = true) (hf0 : 0 ≤ ff) (hl1 : 1 ≤ le) (hn1 : le ≤ (n : Int)) (hn2 : ff < (n : Int)) (hhb : hlB (rnL f n ((n : Int) - ff)) = false) :
    Calls Try.prog 10 #[.agg #[.int .i64 ol, .int .i64 oh], .bool false, .slice a n c, .int .i64 ff, .int .i64 le] w fun e w' => e = .returned (.tuple #[.agg #[.int .i64 0, .int .i64 0], .int .i64 3]) ∧ Below w.heap.size w w' := by
  have HS : Hid (Src w a n f) := hs
  have O := (Vb.new w ol oh 25).below (Below.al9 (w.alloc (.cells #[.int .i64 ol, .int .i64 oh] 25)) (.cells #[.int .i64 0, .int .i64 0] 25))
  have R := Vb.new (w.alloc (.cells #[.int .i64 ol, .int .i64 oh] 25)) 0 0 25
  simp only [World.size_alloc] at R
  have B := (Below.al9 w (.cells #[.int .i64 ol, .int .i64 oh] 25)).trans ((Below.al9 (w.alloc (.cells #[.int .i64 ol, .int .i64 oh] 25)) (.cells #[.int .i64 0, .int .i64 0] 25)).mono (by simp))
  have CS := implSources a n c f ((w.alloc (.cells #[.int .i64 ol, .int .i64 oh] 25)).alloc (.cells #[.int .i64 0, .int .i64 0] 25)) hm (HS.out.below B)
  have CH := fun (v : World) (hb : Below w.heap.size w v) => implHull a n c f ((n : Int) - ff) v hm (HS.out.below hb)
  have hn12 := (srcB_le hsb).1
  rw [hhb] at CH
  generalize hlL (rnL f n ((n : Int) - ff)) = xl at *
  generalize hlH (rnL f n ((n : Int) - ff)) = xh at *
  unfold maxLen at hm
  go_enter Try.func10, Try.ntmps10
  go_wp2_with fail
  refine CS.mono ?_
  rintro e w1 ⟨rfl, hb⟩
  rw [hsb]
  replace O := O.below hb
  replace R := R.below hb
  replace B := B.trans (hb.mono B.size)
  clear hb CS
  go_wp2_with fail
  refine (CH _ B).mono ?_
  rintro e w3 ⟨rfl, hb⟩
  replace O := O.below hb
  replace R := R.below hb
  replace B := B.trans (hb.mono B.size)
  clear hb CH
  have A := Below.al9 w3 (.cells #[.int .i64 xl, .int .i64 xh] 25)
  have X := Vb.new w3 xl xh 25
  have hj3 := R.1
  replace O := O.below A
  replace R := R.below A
  replace B := B.trans (A.mono B.size)
  clear A
  go_upto_region 6 with fail
  generalize hs3 : w3.heap.size = j3 at *
  generalize w3.alloc (.cells #[.int .i64 xl, .int .i64 xh] 25) = v3 at *
  clear hs3
  have B9 : Below w.heap.size w ((v3.setCell ⟨w.heap.size + 1, 0, none⟩ (.int .i64 0)).setCell ⟨w.heap.size + 1, 1, none⟩ (.int .i64 0)) := Below.put2 B (Nat.le_succ _) 0 0
  have R9 : Vb ((v3.setCell ⟨w.heap.size + 1, 0, none⟩ (.int .i64 0)).setCell ⟨w.heap.size + 1, 1, none⟩ (.int .i64 0)) (w.heap.size + 1) 0 0 := R.put 0 0
  obtain ⟨r0, r1, r2, r3, r4⟩ := R
  go_wp2_with fail
  generalize ((v3.setCell ⟨w.heap.size + 1, 0, none⟩ (.int .i64 0)).setCell ⟨w.heap.size + 1, 1, none⟩ (.int .i64 0)) = w9 at *
  obtain ⟨m0, m1, m2, m3, m4⟩ := R9
  exact bodyPost_ret (v := .tuple #[.agg #[.int .i64 0, .int .i64 0], .int .i64 3]) (by simp (maxDischargeDepth := 6) [results, Try.results10, go_sem, m1, m2]) rfl ⟨rfl, B9⟩
set_option maxRecDepth 100000 in
set_option maxHeartbeats 2000000 in
theorem implFuse_i (ol oh : Int) (a : Option Addr) (n c : Nat) (f : Nat → Int × Int) (ff le : Int) (w : World) (hm : n ≤ maxLen) (hs : Src w a n f) (hsb : srcB f n = true) (hf0 : 0 ≤ ff) (hl1 : 1 ≤ le) (hn1 : le ≤ (n : Int)) (hn2 : ff < (n : Int)) (hhb : hlB (rnL f n ((n : Int) - ff)) = true) :
    Calls Try.prog 10 #[.agg #[.int .i64 ol, .int .i64 oh], .bool false, .slice a n c, .int .i64 ff, .int .i64 le] w fun e w' => e = .returned (.tuple #[.agg #[.int .i64 (hlL (rnL f n ((n : Int) - ff))), .int .i64 (hlH (rnL f n ((n : Int) - ff)))], .int .i64 0]) ∧ Below w.heap.size w w' := by
  have HS : Hid (Src w a n f) := hs
  have O := (Vb.new w ol oh 25).below (Below.al9 (w.alloc (.cells #[.int .i64 ol, .int .i64 oh] 25)) (.cells #[.int .i64 0, .int .i64 0] 25))
  have R := Vb.new (w.alloc (.cells #[.int .i64 ol, .int .i64 oh] 25)) 0 0 25
  simp only [World.size_alloc] at R
  have B := (Below.al9 w (.cells #[.int .i64 ol, .int .i64 oh] 25)).trans ((Below.al9 (w.alloc (.cells #[.int .i64 ol, .int .i64 oh] 25)) (.cells #[.int .i64 0, .int .i64 0] 25)).mono (by simp))
  have CS := implSources a n c f ((w.alloc (.cells #[.int .i64 ol, .int .i64 oh] 25)).alloc (.cells #[.int .i64 0, .int .i64 0] 25)) hm (HS.out.below B)
  have CH := fun (v : World) (hb : Below w.heap.size w v) => implHull a n c f ((n : Int) - ff) v hm (HS.out.below hb)
  have hn12 := (srcB_le hsb).1
  rw [hhb] at CH
  generalize hlL (rnL f n ((n : Int) - ff)) = xl at *
  generalize hlH (rnL f n ((n : Int) - ff)) = xh at *
  unfold maxLen at hm
  go_enter Try.func10, Try.ntmps10
  go_wp2_with fail
  refine CS.mono ?_
  rintro e w1 ⟨rfl, hb⟩
  rw [hsb]
  replace O := O.below hb
  replace R := R.below hb
  replace B := B.trans (hb.mono B.size)
  clear hb CS
  go_wp2_with fail
  refine (CH _ B).mono ?_
  rintro e w3 ⟨rfl, hb⟩
  replace O := O.below hb
  replace R := R.below hb
  replace B := B.trans (hb.mono B.size)
  clear hb CH
  have A := Below.al9 w3 (.cells #[.int .i64 xl, .int .i64 xh] 25)
  have X := Vb.new w3 xl xh 25
  have hj3 := R.1
  replace O := O.below A
  replace R := R.below A
  replace B := B.trans (A.mono B.size)
  clear A
  go_upto_region 6 with fail
  generalize hs3 : w3.heap.size = j3 at *
  generalize w3.alloc (.cells #[.int .i64 xl, .int .i64 xh] 25) = v3 at *
  clear hs3
  have B9 : Below w.heap.size w ((v3.setCell ⟨w.heap.size + 1, 0, none⟩ (.int .i64 xl)).setCell ⟨w.heap.size + 1, 1, none⟩ (.int .i64 xh)) := Below.put2 B (Nat.le_succ _) xl xh
  have R9 : Vb ((v3.setCell ⟨w.heap.size + 1, 0, none⟩ (.int .i64 xl)).setCell ⟨w.heap.size + 1, 1, none⟩ (.int .i64 xh)) (w.heap.size + 1) xl xh := R.put xl xh
  obtain ⟨r0, r1, r2, r3, r4⟩ := R
  obtain ⟨x0, x1, x2, x3, x4⟩ := X
  go_wp2_with fail
  generalize ((v3.setCell ⟨w.heap.size + 1, 0, none⟩ (.int .i64 xl)).setCell ⟨w.heap.size + 1, 1, none⟩ (.int .i64 xh)) = w9 at *
  obtain ⟨m0, m1, m2, m3, m4⟩ := R9
  exact bodyPost_ret (v := .tuple #[.agg #[.int .i64 xl, .int .i64 xh], .int .i64 0]) (by simp (maxDischargeDepth := 6) [results, Try.results10, go_sem, m1, m2]) rfl ⟨rfl, B9⟩
set_option maxRecDepth 100000 in
set_option maxHeartbeats 2000000 in
theorem implFuse_j (ol oh : Int) (a : Option Addr) (n c : Nat) (f : Nat → Int × Int) (ff le : Int) (w : World) (hm : n ≤ maxLen) (hs : Src w a n f) (hsb : srcB f n = true) (hf0 : 0 ≤ ff) (hl1 : 1 ≤ le) (hok : okI ol oh = true) (hn1 : le ≤ (n : Int)) (hn2 : ff < (n : Int)) (hhb : hlB (rnL f n ((n : Int) - ff)) = true) (hmt : meetB ol oh (hlL (rnL f n ((n : Int) - ff))) (hlH (rnL f n ((n : Int) - ff))) = false) :
    Calls Try.prog 10 #[.agg #[.int .i64 ol, .int .i64 oh], .bool true, .slice a n c, .int .i64 ff, .int .i64 le] w fun e w' => e = .returned (.tuple #[.agg #[.int .i64 0, .int .i64 0], .int .i64 4]) ∧ Below w.heap.size w w' := by
  have HS : Hid (Src w a n f) := hs
  have O := (Vb.new w ol oh 25).below (Below.al9 (w.alloc (.cells #[.int .i64 ol, .int .i64 oh] 25)) (.cells #[.int .i64 0, .int .i64 0] 25))
  have R := Vb.new (w.alloc (.cells #[.int .i64 ol, .int .i64 oh] 25)) 0 0 25
  simp only [World.size_alloc] at R
  have B := (Below.al9 w (.cells #[.int .i64 ol, .int .i64 oh] 25)).trans ((Below.al9 (w.alloc (.cells #[.int .i64 ol, .int .i64 oh] 25)) (.cells #[.int .i64 0, .int .i64 0] 25)).mono (by simp))
  have CS := implSources a n c f ((w.alloc (.cells #[.int .i64 ol, .int .i64 oh] 25)).alloc (.cells #[.int .i64 0, .int .i64 0] 25)) hm (HS.out.below B)
  have CH := fun (v : World) (hb : Below w.heap.size w v) => implHull a n c f ((n : Int) - ff) v hm (HS.out.below hb)
  have hn12 := (srcB_le hsb).1
  rw [hhb] at CH
  generalize hlL (rnL f n ((n : Int) - ff)) = xl at *
  generalize hlH (rnL f n ((n : Int) - ff)) = xh at *
  unfold maxLen at hm
  have CM := fun (v : World) => implMeet_any ol oh xl xh v
  rw [hmt] at CM
  simp only [sel_f] at CM
  go_enter Try.func10, Try.ntmps10
  go_wp2_with fail
  refine CS.mono ?_
  rintro e w1 ⟨rfl, hb⟩
  rw [hsb]
  replace O := O.below hb
  replace R := R.below hb
  replace B := B.trans (hb.mono B.size)
  clear hb CS
  obtain ⟨o0, o1, o2, o3, o4⟩ := id O
  go_wp2_with fail
  refine (ok_any _ _ _).mono ?_
  rintro e w2 ⟨rfl, hb⟩
  rw [hok]
  clear o0 o1 o2 o3 o4
  replace O := O.below hb
  replace R := R.below hb
  replace B := B.trans (hb.mono B.size)
  clear hb
  go_wp2_with fail
  refine (CH _ B).mono ?_
  rintro e w3 ⟨rfl, hb⟩
  replace O := O.below hb
  replace R := R.below hb
  replace B := B.trans (hb.mono B.size)
  clear hb CH
  have A := Below.al9 w3 (.cells #[.int .i64 xl, .int .i64 xh] 25)
  have X := Vb.new w3 xl xh 25
  have hj3 := R.1
  replace O := O.below A
  replace R := R.below A
  replace B := B.trans (A.mono B.size)
  clear A
  go_upto_region 6 with fail
  generalize hs3 : w3.heap.size = j3 at *
  generalize w3.alloc (.cells #[.int .i64 xl, .int .i64 xh] 25) = v3 at *
  clear hs3
  obtain ⟨o0, o1, o2, o3, o4⟩ := id O
  obtain ⟨x0, x1, x2, x3, x4⟩ := id X
  go_wp2_with fail
  refine (CM _).mono ?_
  rintro e w4 ⟨rfl, hb⟩
  clear o0 o1 o2 o3 o4 x0 x1 x2 x3 x4
  replace R := R.below hb
  replace B := B.trans (hb.mono B.size)
  clear hb
  have A := Below.al9 w4 (.cells #[.int .i64 0, .int .i64 0] 25)
  have X := Vb.new w4 0 0 25
  have hj4 := R.1
  replace R := R.below A
  replace B := B.trans (A.mono B.size)
  clear A
  go_upto_region 11 with fail
  generalize hs4 : w4.heap.size = j4 at *
  generalize w4.alloc (.cells #[.int .i64 0, .int .i64 0] 25) = v4 at *
  clear hs4
  have B9 : Below w.heap.size w ((v4.setCell ⟨w.heap.size + 1, 0, none⟩ (.int .i64 0)).setCell ⟨w.heap.size + 1, 1, none⟩ (.int .i64 0)) := Below.put2 B (Nat.le_succ _) 0 0
  have R9 : Vb ((v4.setCell ⟨w.heap.size + 1, 0, none⟩ (.int .i64 0)).setCell ⟨w.heap.size + 1, 1, none⟩ (.int .i64 0)) (w.heap.size + 1) 0 0 := R.put 0 0
  obtain ⟨r0, r1, r2, r3, r4⟩ := R
  go_wp2_with fail
  generalize ((v4.setCell ⟨w.heap.size + 1, 0, none⟩ (.int .i64 0)).setCell ⟨w.heap.size + 1, 1, none⟩ (.int .i64 0)) = w9 at *
  obtain ⟨m0, m1, m2, m3, m4⟩ := R9
  exact bodyPost_ret (v := .tuple #[.agg #[.int .i64 0, .int .i64 0], .int .i64 4]) (by simp (maxDischargeDepth := 6) [results, Try.results10, go_sem, m1, m2]) rfl ⟨rfl, B9⟩
set_option maxRecDepth 100000 in
set_option maxHeartbeats 2000000 in
theorem implFuse_k (ol oh : Int) (a : Option Addr) (n c : Nat) (f : Nat → Int × Int) (ff le : Int) (w : World) (hm : n ≤ maxLen) (hs : Src w a n f) (hsb : srcB f n = true) (hf0 : 0 ≤ ff) (hl1 : 1 ≤ le) (hok : okI ol oh = true) (hn1 : le ≤ (n : Int)) (hn2 : ff < (n : Int)) (hhb : hlB (rnL f n ((n : Int) - ff)) = true) (hmt : meetB ol oh (hlL (rnL f n ((n : Int) - ff))) (hlH (rnL f n ((n : Int) - ff))) = true) :
    Calls Try.prog 10 #[.agg #[.int .i64 ol, .int .i64 oh], .bool true, .slice a n c, .int .i64 ff, .int .i64 le] w fun e w' => e = .returned (.tuple #[.agg #[.int .i64 (imx ol (hlL (rnL f n ((n : Int) - ff)))), .int .i64 (imn oh (hlH (rnL f n ((n : Int) - ff))))], .int .i64 0]) ∧ Below w.heap.size w w' := by
  have HS : Hid (Src w a n f) := hs
  have O := (Vb.new w ol oh 25).below (Below.al9 (w.alloc (.cells #[.int .i64 ol, .int .i64 oh] 25)) (.cells #[.int .i64 0, .int .i64 0] 25))
  have R := Vb.new (w.alloc (.cells #[.int .i64 ol, .int .i64 oh] 25)) 0 0 25
  simp only [World.size_alloc] at R
  have B := (Below.al9 w (.cells #[.int .i64 ol, .int .i64 oh] 25)).trans ((Below.al9 (w.alloc (.cells #[.int .i64 ol, .int .i64 oh] 25)) (.cells #[.int .i64 0, .int .i64 0] 25)).mono (by simp))
  have CS := implSources a n c f ((w.alloc (.cells #[.int .i64 ol, .int .i64 oh] 25)).alloc (.cells #[.int .i64 0, .int .i64 0] 25)) hm (HS.out.below B)
  have CH := fun (v : World) (hb : Below w.heap.size w v) => implHull a n c f ((n : Int) - ff) v hm (HS.out.below hb)
  have hn12 := (srcB_le hsb).1
  rw [hhb] at CH
  generalize hlL (rnL f n ((n : Int) - ff)) = xl at *
  generalize hlH (rnL f n ((n : Int) - ff)) = xh at *
  unfold maxLen at hm
  have CM := fun (v : World) => implMeet_any ol oh xl xh v
  rw [hmt] at CM
  simp only [sel_t] at CM
  go_enter Try.func10, Try.ntmps10
  go_wp2_with fail
  refine CS.mono ?_
  rintro e w1 ⟨rfl, hb⟩
  rw [hsb]
  replace O := O.below hb
  replace R := R.below hb
  replace B := B.trans (hb.mono B.size)
  clear hb CS
  obtain ⟨o0, o1, o2, o3, o4⟩ := id O
  go_wp2_with fail
  refine (ok_any _ _ _).mono ?_
  rintro e w2 ⟨rfl, hb⟩
  rw [hok]
  clear o0 o1 o2 o3 o4
  replace O := O.below hb
  replace R := R.below hb
  replace B := B.trans (hb.mono B.size)
  clear hb
  go_wp2_with fail
  refine (CH _ B).mono ?_
  rintro e w3 ⟨rfl, hb⟩
  replace O := O.below hb
  replace R := R.below hb
  replace B := B.trans (hb.mono B.size)
  clear hb CH
  have A := Below.al9 w3 (.cells #[.int .i64 xl, .int .i64 xh] 25)
  have X := Vb.new w3 xl xh 25
  have hj3 := R.1
  replace O := O.below A
  replace R := R.below A
  replace B := B.trans (A.mono B.size)
  clear A
  go_upto_region 6 with fail
  generalize hs3 : w3.heap.size = j3 at *
  generalize w3.alloc (.cells #[.int .i64 xl, .int .i64 xh] 25) = v3 at *
  clear hs3
  obtain ⟨o0, o1, o2, o3, o4⟩ := id O
  obtain ⟨x0, x1, x2, x3, x4⟩ := id X
  go_wp2_with fail
  refine (CM _).mono ?_
  rintro e w4 ⟨rfl, hb⟩
  clear o0 o1 o2 o3 o4 x0 x1 x2 x3 x4
  replace R := R.below hb
  replace B := B.trans (hb.mono B.size)
  clear hb
  have A := Below.al9 w4 (.cells #[.int .i64 (imx ol xl), .int .i64 (imn oh xh)] 25)
  have X := Vb.new w4 (imx ol xl) (imn oh xh) 25
  have hj4 := R.1
  replace R := R.below A
  replace B := B.trans (A.mono B.size)
  clear A
  go_upto_region 11 with fail
  generalize hs4 : w4.heap.size = j4 at *
  generalize w4.alloc (.cells #[.int .i64 (imx ol xl), .int .i64 (imn oh xh)] 25) = v4 at *
  clear hs4
  have B9 : Below w.heap.size w ((v4.setCell ⟨w.heap.size + 1, 0, none⟩ (.int .i64 (imx ol xl))).setCell ⟨w.heap.size + 1, 1, none⟩ (.int .i64 (imn oh xh))) := Below.put2 B (Nat.le_succ _) (imx ol xl) (imn oh xh)
  have R9 : Vb ((v4.setCell ⟨w.heap.size + 1, 0, none⟩ (.int .i64 (imx ol xl))).setCell ⟨w.heap.size + 1, 1, none⟩ (.int .i64 (imn oh xh))) (w.heap.size + 1) (imx ol xl) (imn oh xh) := R.put (imx ol xl) (imn oh xh)
  obtain ⟨r0, r1, r2, r3, r4⟩ := R
  obtain ⟨x0, x1, x2, x3, x4⟩ := X
  go_wp2_with fail
  generalize ((v4.setCell ⟨w.heap.size + 1, 0, none⟩ (.int .i64 (imx ol xl))).setCell ⟨w.heap.size + 1, 1, none⟩ (.int .i64 (imn oh xh))) = w9 at *
  obtain ⟨m0, m1, m2, m3, m4⟩ := R9
  exact bodyPost_ret (v := .tuple #[.agg #[.int .i64 (imx ol xl), .int .i64 (imn oh xh)], .int .i64 0]) (by simp (maxDischargeDepth := 6) [results, Try.results10, go_sem, m1, m2]) rfl ⟨rfl, B9⟩
theorem implFuse (ol oh : Int) (kn : Bool) (a : Option Addr) (n c : Nat) (f : Nat → Int × Int) (ff le : Int) (w : World) (hm : n ≤ maxLen) (hs : Src w a n f) :
    Calls Try.prog 10 #[.agg #[.int .i64 ol, .int .i64 oh], .bool kn, .slice a n c, .int .i64 ff, .int .i64 le] w fun e w' => e = .returned (.tuple #[.agg #[.int .i64 (fuL ol oh kn f n ff le), .int .i64 (fuH ol oh kn f n ff le)], .int .i64 (fuC ol oh kn f n ff le)]) ∧ Below w.heap.size w w' := by
  cases hsb : srcB f n
  · have e : fuC ol oh kn f n ff le = 1 := by simp [fuC, fuBad, hsb]
    simp only [fuL, fuH, e]; exact implFuse_a ol oh a n c f ff le w hm hs kn hsb
  by_cases hf0 : ff < 0
  · have e : fuC ol oh kn f n ff le = 1 := by simp [fuC, fuBad, hf0]
    simp only [fuL, fuH, e]; exact implFuse_b ol oh a n c f ff le w hm hs kn hsb hf0
  have hf1 : 0 ≤ ff := by omega
  by_cases hl0 : le < 1
  · have e : fuC ol oh kn f n ff le = 1 := by simp [fuC, fuBad, hl0]
    simp only [fuL, fuH, e]; exact implFuse_c ol oh a n c f ff le w hm hs kn hsb hf1 hl0
  have hl1 : 1 ≤ le := by omega
  cases kn
  · have eb : fuBad ol oh false f n ff le = false := by simp [fuBad, hsb]; omega
    by_cases hn1 : (n : Int) < le
    · have e : fuC ol oh false f n ff le = 2 := by simp [fuC, eb, fuFew, hn1]
      simp only [fuL, fuH, e]; exact implFuse_ef ol oh a n c f ff le w hm hs hsb hf1 hl1 hn1
    by_cases hn2 : (n : Int) ≤ ff
    · have e : fuC ol oh false f n ff le = 2 := by simp [fuC, eb, fuFew, hn2]
      simp only [fuL, fuH, e]; exact implFuse_gf ol oh a n c f ff le w hm hs hsb hf1 hl1 (by omega) hn2
    have ew : fuFew n ff le = false := by simp [fuFew]; omega
    cases hhb : hlB (rnL f n ((n : Int) - ff))
    · have e : fuC ol oh false f n ff le = 3 := by simp [fuC, eb, ew, hhb]
      simp only [fuL, fuH, e]; exact implFuse_hf ol oh a n c f ff le w hm hs hsb hf1 hl1 (by omega) (by omega) hhb
    · have e : fuC ol oh false f n ff le = 0 := by simp [fuC, eb, ew, hhb]
      simp only [fuL, fuH, e]; exact implFuse_i ol oh a n c f ff le w hm hs hsb hf1 hl1 (by omega) (by omega) hhb
  · cases hok : okI ol oh
    · have e : fuC ol oh true f n ff le = 1 := by simp [fuC, fuBad, hok]
      simp only [fuL, fuH, e]; exact implFuse_d ol oh a n c f ff le w hm hs hsb hf1 hl1 hok
    have eb : fuBad ol oh true f n ff le = false := by simp [fuBad, hsb, hok]; omega
    by_cases hn1 : (n : Int) < le
    · have e : fuC ol oh true f n ff le = 2 := by simp [fuC, eb, fuFew, hn1]
      simp only [fuL, fuH, e]; exact implFuse_et ol oh a n c f ff le w hm hs hsb hf1 hl1 hok hn1
    by_cases hn2 : (n : Int) ≤ ff
    · have e : fuC ol oh true f n ff le = 2 := by simp [fuC, eb, fuFew, hn2]
      simp only [fuL, fuH, e]; exact implFuse_gt ol oh a n c f ff le w hm hs hsb hf1 hl1 hok (by omega) hn2
    have ew : fuFew n ff le = false := by simp [fuFew]; omega
    cases hhb : hlB (rnL f n ((n : Int) - ff))
    · have e : fuC ol oh true f n ff le = 3 := by simp [fuC, eb, ew, hhb]
      simp only [fuL, fuH, e]; exact implFuse_ht ol oh a n c f ff le w hm hs hsb hf1 hl1 hok (by omega) (by omega) hhb
    · cases hmt : meetB ol oh (hlL (rnL f n ((n : Int) - ff))) (hlH (rnL f n ((n : Int) - ff)))
      · have e : fuC ol oh true f n ff le = 4 := by simp [fuC, eb, ew, hhb, hmt]
        simp only [fuL, fuH, e]; exact implFuse_j ol oh a n c f ff le w hm hs hsb hf1 hl1 hok (by omega) (by omega) hhb hmt
      · have e : fuC ol oh true f n ff le = 0 := by simp [fuC, eb, ew, hhb, hmt]
        simp only [fuL, fuH, e]; exact implFuse_k ol oh a n c f ff le w hm hs hsb hf1 hl1 hok (by omega) (by omega) hhb hmt
end Go.Proofs.Ytaggohibfghnmaa
