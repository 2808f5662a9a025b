/- What FuseInto comes to; its contracts. -/
import Derived.Test.YtikbjljkakabdaaGreatMB39
namespace Go.Proofs.YtikbjljkakabdaaGreat
open Go.RowKit
set_option linter.unusedVariables false
set_option maxRecDepth 100000
set_option maxHeartbeats 16000000
theorem gk (a b c d : Int) : aZ a b c d = aZ c d a b := by
 simp only [aZ, aY]
 rw [kF a c, kw b d, Bool.and_comm (okI a b)]
def ca (ol oh : Int) (kn : Bool) (f : Nat → Int × Int) (n : Nat) (ff le : Int) : Bool := !(ba f n) || decide (ff < 0) || decide (le < 1) || (kn && !(okI ol oh))
def cg (n : Nat) (ff le : Int) : Bool := decide ((n : Int) < le) || decide ((n : Int) ≤ ff)
def fuC (ol oh : Int) (kn : Bool) (f : Nat → Int × Int) (n : Nat) (ff le : Int) : Int :=
 if ca ol oh kn f n ff le then 1 else if cg n ff le then 2 else if hlB (rnL f n ((n : Int) - ff)) = false then 3 else if kn = false then 0 else if aZ ol oh (hlL (rnL f n ((n : Int) - ff))) (hlH (rnL f n ((n : Int) - ff))) then 0 else 4
def fuL (ol oh : Int) (kn : Bool) (f : Nat → Int × Int) (n : Nat) (ff le : Int) : Int :=
 if fuC ol oh kn f n ff le = 0 then (if kn then imx ol (hlL (rnL f n ((n : Int) - ff))) else hlL (rnL f n ((n : Int) - ff))) else 0
def fuH (ol oh : Int) (kn : Bool) (f : Nat → Int × Int) (n : Nat) (ff le : Int) : Int :=
 if fuC ol oh kn f n ff le = 0 then (if kn then imn oh (hlH (rnL f n ((n : Int) - ff))) else hlH (rnL f n ((n : Int) - ff))) else 0
theorem mU (ol oh : Int) (a : Option Addr) (n c : Nat) (f : Nat → Int × Int) (ff le : Int) (w : World) (hm : n ≤ maxLen) (hs : Src w a n f) (kn : Bool) (hsb : ba f n = false) :
 Calls Tryz.prog 63 #[.agg #[.int .i64 ol, .int .i64 oh], .bool kn, .slice a n c, .int .i64 ff, .int .i64 le] w fun e w' => e = .returned (.tuple #[.agg #[.int .i64 0, .int .i64 0], .int .i64 1]) ∧ Below w.heap.size w w' := by
 have HS : Hid (Src w a n f) := hs
 have O := (Vb.new w ol oh 47).below (Below.al9 (w.alloc (.cells #[.int .i64 ol, .int .i64 oh] 47)) (.cells #[.int .i64 0, .int .i64 0] 47))
 have R := Vb.new (w.alloc (.cells #[.int .i64 ol, .int .i64 oh] 47)) 0 0 47
 simp only [World.size_alloc] at R
 have B := (Below.al9 w (.cells #[.int .i64 ol, .int .i64 oh] 47)).trans ((Below.al9 (w.alloc (.cells #[.int .i64 ol, .int .i64 oh] 47)) (.cells #[.int .i64 0, .int .i64 0] 47)).mono (by simp))
 have CS := aI a n c f ((w.alloc (.cells #[.int .i64 ol, .int .i64 oh] 47)).alloc (.cells #[.int .i64 0, .int .i64 0] 47)) hm (HS.out.below B)
 unfold maxLen at hm
 go_enter Tryz.func63, Tryz.ntmps63
 go_wp2_with fail
 refine CS.mono ?_
 rintro e w1 ⟨rfl, hb⟩
 rw [hsb]
 replace O := O.below hb
 replace R := R.below hb
 replace B := B.trans (hb.mono B.size)
 clear hb CS
 have B9 : Below w.heap.size w ((w1.setCell ⟨w.heap.size + 1, 0, none⟩ (.int .i64 0)).setCell ⟨w.heap.size + 1, 1, none⟩ (.int .i64 0)) := Below.put2 B (Nat.le_succ _) 0 0
 have R9 : Vb ((w1.setCell ⟨w.heap.size + 1, 0, none⟩ (.int .i64 0)).setCell ⟨w.heap.size + 1, 1, none⟩ (.int .i64 0)) (w.heap.size + 1) 0 0 := R.put 0 0
 obtain ⟨r0, r1, r2, r3, r4⟩ := R
 go_wp2_with fail
 generalize ((w1.setCell ⟨w.heap.size + 1, 0, none⟩ (.int .i64 0)).setCell ⟨w.heap.size + 1, 1, none⟩ (.int .i64 0)) = w9 at *
 obtain ⟨m0, m1, m2, m3, m4⟩ := R9
 exact bodyPost_ret (v := .tuple #[.agg #[.int .i64 0, .int .i64 0], .int .i64 1]) (by simp (maxDischargeDepth := 6) [results, Tryz.results63, go_sem, m1, m2]) rfl ⟨rfl, B9⟩
theorem mV (ol oh : Int) (a : Option Addr) (n c : Nat) (f : Nat → Int × Int) (ff le : Int) (w : World) (hm : n ≤ maxLen) (hs : Src w a n f) (kn : Bool) (hsb : ba f n = true) (hf0 : ff < 0) :
 Calls Tryz.prog 63 #[.agg #[.int .i64 ol, .int .i64 oh], .bool kn, .slice a n c, .int .i64 ff, .int .i64 le] w fun e w' => e = .returned (.tuple #[.agg #[.int .i64 0, .int .i64 0], .int .i64 1]) ∧ Below w.heap.size w w' := by
 have HS : Hid (Src w a n f) := hs
 have O := (Vb.new w ol oh 47).below (Below.al9 (w.alloc (.cells #[.int .i64 ol, .int .i64 oh] 47)) (.cells #[.int .i64 0, .int .i64 0] 47))
 have R := Vb.new (w.alloc (.cells #[.int .i64 ol, .int .i64 oh] 47)) 0 0 47
 simp only [World.size_alloc] at R
 have B := (Below.al9 w (.cells #[.int .i64 ol, .int .i64 oh] 47)).trans ((Below.al9 (w.alloc (.cells #[.int .i64 ol, .int .i64 oh] 47)) (.cells #[.int .i64 0, .int .i64 0] 47)).mono (by simp))
 have CS := aI a n c f ((w.alloc (.cells #[.int .i64 ol, .int .i64 oh] 47)).alloc (.cells #[.int .i64 0, .int .i64 0] 47)) hm (HS.out.below B)
 unfold maxLen at hm
 go_enter Tryz.func63, Tryz.ntmps63
 go_wp2_with fail
 refine CS.mono ?_
 rintro e w1 ⟨rfl, hb⟩
 rw [hsb]
 replace O := O.below hb
 replace R := R.below hb
 replace B := B.trans (hb.mono B.size)
 clear hb CS
 have B9 : Below w.heap.size w ((w1.setCell ⟨w.heap.size + 1, 0, none⟩ (.int .i64 0)).setCell ⟨w.heap.size + 1, 1, none⟩ (.int .i64 0)) := Below.put2 B (Nat.le_succ _) 0 0
 have R9 : Vb ((w1.setCell ⟨w.heap.size + 1, 0, none⟩ (.int .i64 0)).setCell ⟨w.heap.size + 1, 1, none⟩ (.int .i64 0)) (w.heap.size + 1) 0 0 := R.put 0 0
 obtain ⟨r0, r1, r2, r3, r4⟩ := R
 go_wp2_with fail
 generalize ((w1.setCell ⟨w.heap.size + 1, 0, none⟩ (.int .i64 0)).setCell ⟨w.heap.size + 1, 1, none⟩ (.int .i64 0)) = w9 at *
 obtain ⟨m0, m1, m2, m3, m4⟩ := R9
 exact bodyPost_ret (v := .tuple #[.agg #[.int .i64 0, .int .i64 0], .int .i64 1]) (by simp (maxDischargeDepth := 6) [results, Tryz.results63, go_sem, m1, m2]) rfl ⟨rfl, B9⟩
theorem mW (ol oh : Int) (a : Option Addr) (n c : Nat) (f : Nat → Int × Int) (ff le : Int) (w : World) (hm : n ≤ maxLen) (hs : Src w a n f) (kn : Bool) (hsb : ba f n = true) (hf0 : 0 ≤ ff) (hl1 : le < 1) :
 Calls Tryz.prog 63 #[.agg #[.int .i64 ol, .int .i64 oh], .bool kn, .slice a n c, .int .i64 ff, .int .i64 le] w fun e w' => e = .returned (.tuple #[.agg #[.int .i64 0, .int .i64 0], .int .i64 1]) ∧ Below w.heap.size w w' := by
 have HS : Hid (Src w a n f) := hs
 have O := (Vb.new w ol oh 47).below (Below.al9 (w.alloc (.cells #[.int .i64 ol, .int .i64 oh] 47)) (.cells #[.int .i64 0, .int .i64 0] 47))
 have R := Vb.new (w.alloc (.cells #[.int .i64 ol, .int .i64 oh] 47)) 0 0 47
 simp only [World.size_alloc] at R
 have B := (Below.al9 w (.cells #[.int .i64 ol, .int .i64 oh] 47)).trans ((Below.al9 (w.alloc (.cells #[.int .i64 ol, .int .i64 oh] 47)) (.cells #[.int .i64 0, .int .i64 0] 47)).mono (by simp))
 have CS := aI a n c f ((w.alloc (.cells #[.int .i64 ol, .int .i64 oh] 47)).alloc (.cells #[.int .i64 0, .int .i64 0] 47)) hm (HS.out.below B)
 unfold maxLen at hm
 go_enter Tryz.func63, Tryz.ntmps63
 go_wp2_with fail
 refine CS.mono ?_
 rintro e w1 ⟨rfl, hb⟩
 rw [hsb]
 replace O := O.below hb
 replace R := R.below hb
 replace B := B.trans (hb.mono B.size)
 clear hb CS
 have B9 : Below w.heap.size w ((w1.setCell ⟨w.heap.size + 1, 0, none⟩ (.int .i64 0)).setCell ⟨w.heap.size + 1, 1, none⟩ (.int .i64 0)) := Below.put2 B (Nat.le_succ _) 0 0
 have R9 : Vb ((w1.setCell ⟨w.heap.size + 1, 0, none⟩ (.int .i64 0)).setCell ⟨w.heap.size + 1, 1, none⟩ (.int .i64 0)) (w.heap.size + 1) 0 0 := R.put 0 0
 obtain ⟨r0, r1, r2, r3, r4⟩ := R
 go_wp2_with fail
 generalize ((w1.setCell ⟨w.heap.size + 1, 0, none⟩ (.int .i64 0)).setCell ⟨w.heap.size + 1, 1, none⟩ (.int .i64 0)) = w9 at *
 obtain ⟨m0, m1, m2, m3, m4⟩ := R9
 exact bodyPost_ret (v := .tuple #[.agg #[.int .i64 0, .int .i64 0], .int .i64 1]) (by simp (maxDischargeDepth := 6) [results, Tryz.results63, go_sem, m1, m2]) rfl ⟨rfl, B9⟩
theorem mX (ol oh : Int) (a : Option Addr) (n c : Nat) (f : Nat → Int × Int) (ff le : Int) (w : World) (hm : n ≤ maxLen) (hs : Src w a n f) (hsb : ba f n = true) (hf0 : 0 ≤ ff) (hl1 : 1 ≤ le) (hok : okI ol oh = false) :
 Calls Tryz.prog 63 #[.agg #[.int .i64 ol, .int .i64 oh], .bool true, .slice a n c, .int .i64 ff, .int .i64 le] w fun e w' => e = .returned (.tuple #[.agg #[.int .i64 0, .int .i64 0], .int .i64 1]) ∧ Below w.heap.size w w' := by
 have HS : Hid (Src w a n f) := hs
 have O := (Vb.new w ol oh 47).below (Below.al9 (w.alloc (.cells #[.int .i64 ol, .int .i64 oh] 47)) (.cells #[.int .i64 0, .int .i64 0] 47))
 have R := Vb.new (w.alloc (.cells #[.int .i64 ol, .int .i64 oh] 47)) 0 0 47
 simp only [World.size_alloc] at R
 have B := (Below.al9 w (.cells #[.int .i64 ol, .int .i64 oh] 47)).trans ((Below.al9 (w.alloc (.cells #[.int .i64 ol, .int .i64 oh] 47)) (.cells #[.int .i64 0, .int .i64 0] 47)).mono (by simp))
 have CS := aI a n c f ((w.alloc (.cells #[.int .i64 ol, .int .i64 oh] 47)).alloc (.cells #[.int .i64 0, .int .i64 0] 47)) hm (HS.out.below B)
 unfold maxLen at hm
 go_enter Tryz.func63, Tryz.ntmps63
 go_wp2_with fail
 refine CS.mono ?_
 rintro e w1 ⟨rfl, hb⟩
 rw [hsb]
 replace O := O.below hb
 replace R := R.below hb
 replace B := B.trans (hb.mono B.size)
 clear hb CS
 have o0 : _ ∧ _ := O
 go_wp2_with fail
 refine (ao _ _ _).mono ?_
 rintro e w2 ⟨rfl, hb⟩
 rw [hok]
 clear o0
 replace O := O.below hb
 replace R := R.below hb
 replace B := B.trans (hb.mono B.size)
 clear hb
 have B9 : Below w.heap.size w ((w2.setCell ⟨w.heap.size + 1, 0, none⟩ (.int .i64 0)).setCell ⟨w.heap.size + 1, 1, none⟩ (.int .i64 0)) := Below.put2 B (Nat.le_succ _) 0 0
 have R9 : Vb ((w2.setCell ⟨w.heap.size + 1, 0, none⟩ (.int .i64 0)).setCell ⟨w.heap.size + 1, 1, none⟩ (.int .i64 0)) (w.heap.size + 1) 0 0 := R.put 0 0
 obtain ⟨r0, r1, r2, r3, r4⟩ := R
 go_wp2_with fail
 generalize ((w2.setCell ⟨w.heap.size + 1, 0, none⟩ (.int .i64 0)).setCell ⟨w.heap.size + 1, 1, none⟩ (.int .i64 0)) = w9 at *
 obtain ⟨m0, m1, m2, m3, m4⟩ := R9
 exact bodyPost_ret (v := .tuple #[.agg #[.int .i64 0, .int .i64 0], .int .i64 1]) (by simp (maxDischargeDepth := 6) [results, Tryz.results63, go_sem, m1, m2]) rfl ⟨rfl, B9⟩
theorem lF (ol oh : Int) (a : Option Addr) (n c : Nat) (f : Nat → Int × Int) (ff le : Int) (w : World) (hm : n ≤ maxLen) (hs : Src w a n f) (hsb : ba f n = true) (hf0 : 0 ≤ ff) (hl1 : 1 ≤ le) (hok : okI ol oh = true) (hn1 : (n : Int) < le) :
 Calls Tryz.prog 63 #[.agg #[.int .i64 ol, .int .i64 oh], .bool true, .slice a n c, .int .i64 ff, .int .i64 le] w fun e w' => e = .returned (.tuple #[.agg #[.int .i64 0, .int .i64 0], .int .i64 2]) ∧ Below w.heap.size w w' := by
 have HS : Hid (Src w a n f) := hs
 have O := (Vb.new w ol oh 47).below (Below.al9 (w.alloc (.cells #[.int .i64 ol, .int .i64 oh] 47)) (.cells #[.int .i64 0, .int .i64 0] 47))
 have R := Vb.new (w.alloc (.cells #[.int .i64 ol, .int .i64 oh] 47)) 0 0 47
 simp only [World.size_alloc] at R
 have B := (Below.al9 w (.cells #[.int .i64 ol, .int .i64 oh] 47)).trans ((Below.al9 (w.alloc (.cells #[.int .i64 ol, .int .i64 oh] 47)) (.cells #[.int .i64 0, .int .i64 0] 47)).mono (by simp))
 have CS := aI a n c f ((w.alloc (.cells #[.int .i64 ol, .int .i64 oh] 47)).alloc (.cells #[.int .i64 0, .int .i64 0] 47)) hm (HS.out.below B)
 unfold maxLen at hm
 go_enter Tryz.func63, Tryz.ntmps63
 go_wp2_with fail
 refine CS.mono ?_
 rintro e w1 ⟨rfl, hb⟩
 rw [hsb]
 replace O := O.below hb
 replace R := R.below hb
 replace B := B.trans (hb.mono B.size)
 clear hb CS
 have o0 : _ ∧ _ := O
 go_wp2_with fail
 refine (ao _ _ _).mono ?_
 rintro e w2 ⟨rfl, hb⟩
 rw [hok]
 clear o0
 replace O := O.below hb
 replace R := R.below hb
 replace B := B.trans (hb.mono B.size)
 clear hb
 have B9 : Below w.heap.size w ((w2.setCell ⟨w.heap.size + 1, 0, none⟩ (.int .i64 0)).setCell ⟨w.heap.size + 1, 1, none⟩ (.int .i64 0)) := Below.put2 B (Nat.le_succ _) 0 0
 have R9 : Vb ((w2.setCell ⟨w.heap.size + 1, 0, none⟩ (.int .i64 0)).setCell ⟨w.heap.size + 1, 1, none⟩ (.int .i64 0)) (w.heap.size + 1) 0 0 := R.put 0 0
 obtain ⟨r0, r1, r2, r3, r4⟩ := R
 go_wp2_with fail
 generalize ((w2.setCell ⟨w.heap.size + 1, 0, none⟩ (.int .i64 0)).setCell ⟨w.heap.size + 1, 1, none⟩ (.int .i64 0)) = w9 at *
 obtain ⟨m0, m1, m2, m3, m4⟩ := R9
 exact bodyPost_ret (v := .tuple #[.agg #[.int .i64 0, .int .i64 0], .int .i64 2]) (by simp (maxDischargeDepth := 6) [results, Tryz.results63, go_sem, m1, m2]) rfl ⟨rfl, B9⟩
theorem lH (ol oh : Int) (a : Option Addr) (n c : Nat) (f : Nat → Int × Int) (ff le : Int) (w : World) (hm : n ≤ maxLen) (hs : Src w a n f) (hsb : ba f n = true) (hf0 : 0 ≤ ff) (hl1 : 1 ≤ le) (hok : okI ol oh = true) (hn1 : le ≤ (n : Int)) (hn2 : (n : Int) ≤ ff) :
 Calls Tryz.prog 63 #[.agg #[.int .i64 ol, .int .i64 oh], .bool true, .slice a n c, .int .i64 ff, .int .i64 le] w fun e w' => e = .returned (.tuple #[.agg #[.int .i64 0, .int .i64 0], .int .i64 2]) ∧ Below w.heap.size w w' := by
 have HS : Hid (Src w a n f) := hs
 have O := (Vb.new w ol oh 47).below (Below.al9 (w.alloc (.cells #[.int .i64 ol, .int .i64 oh] 47)) (.cells #[.int .i64 0, .int .i64 0] 47))
 have R := Vb.new (w.alloc (.cells #[.int .i64 ol, .int .i64 oh] 47)) 0 0 47
 simp only [World.size_alloc] at R
 have B := (Below.al9 w (.cells #[.int .i64 ol, .int .i64 oh] 47)).trans ((Below.al9 (w.alloc (.cells #[.int .i64 ol, .int .i64 oh] 47)) (.cells #[.int .i64 0, .int .i64 0] 47)).mono (by simp))
 have CS := aI a n c f ((w.alloc (.cells #[.int .i64 ol, .int .i64 oh] 47)).alloc (.cells #[.int .i64 0, .int .i64 0] 47)) hm (HS.out.below B)
 unfold maxLen at hm
 go_enter Tryz.func63, Tryz.ntmps63
 go_wp2_with fail
 refine CS.mono ?_
 rintro e w1 ⟨rfl, hb⟩
 rw [hsb]
 replace O := O.below hb
 replace R := R.below hb
 replace B := B.trans (hb.mono B.size)
 clear hb CS
 have o0 : _ ∧ _ := O
 go_wp2_with fail
 refine (ao _ _ _).mono ?_
 rintro e w2 ⟨rfl, hb⟩
 rw [hok]
 clear o0
 replace O := O.below hb
 replace R := R.below hb
 replace B := B.trans (hb.mono B.size)
 clear hb
 have B9 : Below w.heap.size w ((w2.setCell ⟨w.heap.size + 1, 0, none⟩ (.int .i64 0)).setCell ⟨w.heap.size + 1, 1, none⟩ (.int .i64 0)) := Below.put2 B (Nat.le_succ _) 0 0
 have R9 : Vb ((w2.setCell ⟨w.heap.size + 1, 0, none⟩ (.int .i64 0)).setCell ⟨w.heap.size + 1, 1, none⟩ (.int .i64 0)) (w.heap.size + 1) 0 0 := R.put 0 0
 obtain ⟨r0, r1, r2, r3, r4⟩ := R
 go_wp2_with fail
 generalize ((w2.setCell ⟨w.heap.size + 1, 0, none⟩ (.int .i64 0)).setCell ⟨w.heap.size + 1, 1, none⟩ (.int .i64 0)) = w9 at *
 obtain ⟨m0, m1, m2, m3, m4⟩ := R9
 exact bodyPost_ret (v := .tuple #[.agg #[.int .i64 0, .int .i64 0], .int .i64 2]) (by simp (maxDischargeDepth := 6) [results, Tryz.results63, go_sem, m1, m2]) rfl ⟨rfl, B9⟩
theorem lJ (ol oh : Int) (a : Option Addr) (n c : Nat) (f : Nat → Int × Int) (ff le : Int) (w : World) (hm : n ≤ maxLen) (hs : Src w a n f) (hsb : ba f n = true) (hf0 : 0 ≤ ff) (hl1 : 1 ≤ le) (hok : okI ol oh = true) (hn1 : le ≤ (n : Int)) (hn2 : ff < (n : Int)) (hhb : hlB (rnL f n ((n : Int) - ff)) = false) :
 Calls Tryz.prog 63 #[.agg #[.int .i64 ol, .int .i64 oh], .bool true, .slice a n c, .int .i64 ff, .int .i64 le] w fun e w' => e = .returned (.tuple #[.agg #[.int .i64 0, .int .i64 0], .int .i64 3]) ∧ Below w.heap.size w w' := by
 have HS : Hid (Src w a n f) := hs
 have O := (Vb.new w ol oh 47).below (Below.al9 (w.alloc (.cells #[.int .i64 ol, .int .i64 oh] 47)) (.cells #[.int .i64 0, .int .i64 0] 47))
 have R := Vb.new (w.alloc (.cells #[.int .i64 ol, .int .i64 oh] 47)) 0 0 47
 simp only [World.size_alloc] at R
 have B := (Below.al9 w (.cells #[.int .i64 ol, .int .i64 oh] 47)).trans ((Below.al9 (w.alloc (.cells #[.int .i64 ol, .int .i64 oh] 47)) (.cells #[.int .i64 0, .int .i64 0] 47)).mono (by simp))
 have CS := aI a n c f ((w.alloc (.cells #[.int .i64 ol, .int .i64 oh] 47)).alloc (.cells #[.int .i64 0, .int .i64 0] 47)) hm (HS.out.below B)
 have CH := fun (v : World) (hb : Below w.heap.size w v) => dx a n c f ((n : Int) - ff) v hm (HS.out.below hb)
 have hn12 := (bC hsb).1
 rw [hhb] at CH
 generalize hlL (rnL f n ((n : Int) - ff)) = xl at *
 generalize hlH (rnL f n ((n : Int) - ff)) = xh at *
 unfold maxLen at hm
 go_enter Tryz.func63, Tryz.ntmps63
 go_wp2_with fail
 refine CS.mono ?_
 rintro e w1 ⟨rfl, hb⟩
 rw [hsb]
 replace O := O.below hb
 replace R := R.below hb
 replace B := B.trans (hb.mono B.size)
 clear hb CS
 have o0 : _ ∧ _ := O
 go_wp2_with fail
 refine (ao _ _ _).mono ?_
 rintro e w2 ⟨rfl, hb⟩
 rw [hok]
 clear o0
 replace O := O.below hb
 replace R := R.below hb
 replace B := B.trans (hb.mono B.size)
 clear hb
 go_wp2_with fail
 refine (CH _ B).mono ?_
 rintro e w3 ⟨rfl, hb⟩
 replace O := O.below hb
 replace R := R.below hb
 replace B := B.trans (hb.mono B.size)
 clear hb CH
 have A := Below.al9 w3 (.cells #[.int .i64 xl, .int .i64 xh] 47)
 have X := Vb.new w3 xl xh 47
 have hj3 := R.1
 replace O := O.below A
 replace R := R.below A
 replace B := B.trans (A.mono B.size)
 clear A
 go_upto_region 6 with fail
 generalize hs3 : w3.heap.size = j3 at *
 generalize w3.alloc (.cells #[.int .i64 xl, .int .i64 xh] 47) = v3 at *
 clear hs3
 have B9 : Below w.heap.size w ((v3.setCell ⟨w.heap.size + 1, 0, none⟩ (.int .i64 0)).setCell ⟨w.heap.size + 1, 1, none⟩ (.int .i64 0)) := Below.put2 B (Nat.le_succ _) 0 0
 have R9 : Vb ((v3.setCell ⟨w.heap.size + 1, 0, none⟩ (.int .i64 0)).setCell ⟨w.heap.size + 1, 1, none⟩ (.int .i64 0)) (w.heap.size + 1) 0 0 := R.put 0 0
 obtain ⟨r0, r1, r2, r3, r4⟩ := R
 go_wp2_with fail
 generalize ((v3.setCell ⟨w.heap.size + 1, 0, none⟩ (.int .i64 0)).setCell ⟨w.heap.size + 1, 1, none⟩ (.int .i64 0)) = w9 at *
 obtain ⟨m0, m1, m2, m3, m4⟩ := R9
 exact bodyPost_ret (v := .tuple #[.agg #[.int .i64 0, .int .i64 0], .int .i64 3]) (by simp (maxDischargeDepth := 6) [results, Tryz.results63, go_sem, m1, m2]) rfl ⟨rfl, B9⟩
theorem lE (ol oh : Int) (a : Option Addr) (n c : Nat) (f : Nat → Int × Int) (ff le : Int) (w : World) (hm : n ≤ maxLen) (hs : Src w a n f) (hsb : ba f n = true) (hf0 : 0 ≤ ff) (hl1 : 1 ≤ le) (hn1 : (n : Int) < le) :
 Calls Tryz.prog 63 #[.agg #[.int .i64 ol, .int .i64 oh], .bool false, .slice a n c, .int .i64 ff, .int .i64 le] w fun e w' => e = .returned (.tuple #[.agg #[.int .i64 0, .int .i64 0], .int .i64 2]) ∧ Below w.heap.size w w' := by
 have HS : Hid (Src w a n f) := hs
 have O := (Vb.new w ol oh 47).below (Below.al9 (w.alloc (.cells #[.int .i64 ol, .int .i64 oh] 47)) (.cells #[.int .i64 0, .int .i64 0] 47))
 have R := Vb.new (w.alloc (.cells #[.int .i64 ol, .int .i64 oh] 47)) 0 0 47
 simp only [World.size_alloc] at R
 have B := (Below.al9 w (.cells #[.int .i64 ol, .int .i64 oh] 47)).trans ((Below.al9 (w.alloc (.cells #[.int .i64 ol, .int .i64 oh] 47)) (.cells #[.int .i64 0, .int .i64 0] 47)).mono (by simp))
 have CS := aI a n c f ((w.alloc (.cells #[.int .i64 ol, .int .i64 oh] 47)).alloc (.cells #[.int .i64 0, .int .i64 0] 47)) hm (HS.out.below B)
 unfold maxLen at hm
 go_enter Tryz.func63, Tryz.ntmps63
 go_wp2_with fail
 refine CS.mono ?_
 rintro e w1 ⟨rfl, hb⟩
 rw [hsb]
 replace O := O.below hb
 replace R := R.below hb
 replace B := B.trans (hb.mono B.size)
 clear hb CS
 have B9 : Below w.heap.size w ((w1.setCell ⟨w.heap.size + 1, 0, none⟩ (.int .i64 0)).setCell ⟨w.heap.size + 1, 1, none⟩ (.int .i64 0)) := Below.put2 B (Nat.le_succ _) 0 0
 have R9 : Vb ((w1.setCell ⟨w.heap.size + 1, 0, none⟩ (.int .i64 0)).setCell ⟨w.heap.size + 1, 1, none⟩ (.int .i64 0)) (w.heap.size + 1) 0 0 := R.put 0 0
 obtain ⟨r0, r1, r2, r3, r4⟩ := R
 go_wp2_with fail
 generalize ((w1.setCell ⟨w.heap.size + 1, 0, none⟩ (.int .i64 0)).setCell ⟨w.heap.size + 1, 1, none⟩ (.int .i64 0)) = w9 at *
 obtain ⟨m0, m1, m2, m3, m4⟩ := R9
 exact bodyPost_ret (v := .tuple #[.agg #[.int .i64 0, .int .i64 0], .int .i64 2]) (by simp (maxDischargeDepth := 6) [results, Tryz.results63, go_sem, m1, m2]) rfl ⟨rfl, B9⟩
theorem lG (ol oh : Int) (a : Option Addr) (n c : Nat) (f : Nat → Int × Int) (ff le : Int) (w : World) (hm : n ≤ maxLen) (hs : Src w a n f) (hsb : ba f n = true) (hf0 : 0 ≤ ff) (hl1 : 1 ≤ le) (hn1 : le ≤ (n : Int)) (hn2 : (n : Int) ≤ ff) :
 Calls Tryz.prog 63 #[.agg #[.int .i64 ol, .int .i64 oh], .bool false, .slice a n c, .int .i64 ff, .int .i64 le] w fun e w' => e = .returned (.tuple #[.agg #[.int .i64 0, .int .i64 0], .int .i64 2]) ∧ Below w.heap.size w w' := by
 have HS : Hid (Src w a n f) := hs
 have O := (Vb.new w ol oh 47).below (Below.al9 (w.alloc (.cells #[.int .i64 ol, .int .i64 oh] 47)) (.cells #[.int .i64 0, .int .i64 0] 47))
 have R := Vb.new (w.alloc (.cells #[.int .i64 ol, .int .i64 oh] 47)) 0 0 47
 simp only [World.size_alloc] at R
 have B := (Below.al9 w (.cells #[.int .i64 ol, .int .i64 oh] 47)).trans ((Below.al9 (w.alloc (.cells #[.int .i64 ol, .int .i64 oh] 47)) (.cells #[.int .i64 0, .int .i64 0] 47)).mono (by simp))
 have CS := aI a n c f ((w.alloc (.cells #[.int .i64 ol, .int .i64 oh] 47)).alloc (.cells #[.int .i64 0, .int .i64 0] 47)) hm (HS.out.below B)
 unfold maxLen at hm
 go_enter Tryz.func63, Tryz.ntmps63
 go_wp2_with fail
 refine CS.mono ?_
 rintro e w1 ⟨rfl, hb⟩
 rw [hsb]
 replace O := O.below hb
 replace R := R.below hb
 replace B := B.trans (hb.mono B.size)
 clear hb CS
 have B9 : Below w.heap.size w ((w1.setCell ⟨w.heap.size + 1, 0, none⟩ (.int .i64 0)).setCell ⟨w.heap.size + 1, 1, none⟩ (.int .i64 0)) := Below.put2 B (Nat.le_succ _) 0 0
 have R9 : Vb ((w1.setCell ⟨w.heap.size + 1, 0, none⟩ (.int .i64 0)).setCell ⟨w.heap.size + 1, 1, none⟩ (.int .i64 0)) (w.heap.size + 1) 0 0 := R.put 0 0
 obtain ⟨r0, r1, r2, r3, r4⟩ := R
 go_wp2_with fail
 generalize ((w1.setCell ⟨w.heap.size + 1, 0, none⟩ (.int .i64 0)).setCell ⟨w.heap.size + 1, 1, none⟩ (.int .i64 0)) = w9 at *
 obtain ⟨m0, m1, m2, m3, m4⟩ := R9
 exact bodyPost_ret (v := .tuple #[.agg #[.int .i64 0, .int .i64 0], .int .i64 2]) (by simp (maxDischargeDepth := 6) [results, Tryz.results63, go_sem, m1, m2]) rfl ⟨rfl, B9⟩
theorem lI (ol oh : Int) (a : Option Addr) (n c : Nat) (f : Nat → Int × Int) (ff le : Int) (w : World) (hm : n ≤ maxLen) (hs : Src w a n f) (hsb : ba f n = true) (hf0 : 0 ≤ ff) (hl1 : 1 ≤ le) (hn1 : le ≤ (n : Int)) (hn2 : ff < (n : Int)) (hhb : hlB (rnL f n ((n : Int) - ff)) = false) :
 Calls Tryz.prog 63 #[.agg #[.int .i64 ol, .int .i64 oh], .bool false, .slice a n c, .int .i64 ff, .int .i64 le] w fun e w' => e = .returned (.tuple #[.agg #[.int .i64 0, .int .i64 0], .int .i64 3]) ∧ Below w.heap.size w w' := by
 have HS : Hid (Src w a n f) := hs
 have O := (Vb.new w ol oh 47).below (Below.al9 (w.alloc (.cells #[.int .i64 ol, .int .i64 oh] 47)) (.cells #[.int .i64 0, .int .i64 0] 47))
 have R := Vb.new (w.alloc (.cells #[.int .i64 ol, .int .i64 oh] 47)) 0 0 47
 simp only [World.size_alloc] at R
 have B := (Below.al9 w (.cells #[.int .i64 ol, .int .i64 oh] 47)).trans ((Below.al9 (w.alloc (.cells #[.int .i64 ol, .int .i64 oh] 47)) (.cells #[.int .i64 0, .int .i64 0] 47)).mono (by simp))
 have CS := aI a n c f ((w.alloc (.cells #[.int .i64 ol, .int .i64 oh] 47)).alloc (.cells #[.int .i64 0, .int .i64 0] 47)) hm (HS.out.below B)
 have CH := fun (v : World) (hb : Below w.heap.size w v) => dx a n c f ((n : Int) - ff) v hm (HS.out.below hb)
 have hn12 := (bC hsb).1
 rw [hhb] at CH
 generalize hlL (rnL f n ((n : Int) - ff)) = xl at *
 generalize hlH (rnL f n ((n : Int) - ff)) = xh at *
 unfold maxLen at hm
 go_enter Tryz.func63, Tryz.ntmps63
 go_wp2_with fail
 refine CS.mono ?_
 rintro e w1 ⟨rfl, hb⟩
 rw [hsb]
 replace O := O.below hb
 replace R := R.below hb
 replace B := B.trans (hb.mono B.size)
 clear hb CS
 go_wp2_with fail
 refine (CH _ B).mono ?_
 rintro e w3 ⟨rfl, hb⟩
 replace O := O.below hb
 replace R := R.below hb
 replace B := B.trans (hb.mono B.size)
 clear hb CH
 have A := Below.al9 w3 (.cells #[.int .i64 xl, .int .i64 xh] 47)
 have X := Vb.new w3 xl xh 47
 have hj3 := R.1
 replace O := O.below A
 replace R := R.below A
 replace B := B.trans (A.mono B.size)
 clear A
 go_upto_region 6 with fail
 generalize hs3 : w3.heap.size = j3 at *
 generalize w3.alloc (.cells #[.int .i64 xl, .int .i64 xh] 47) = v3 at *
 clear hs3
 have B9 : Below w.heap.size w ((v3.setCell ⟨w.heap.size + 1, 0, none⟩ (.int .i64 0)).setCell ⟨w.heap.size + 1, 1, none⟩ (.int .i64 0)) := Below.put2 B (Nat.le_succ _) 0 0
 have R9 : Vb ((v3.setCell ⟨w.heap.size + 1, 0, none⟩ (.int .i64 0)).setCell ⟨w.heap.size + 1, 1, none⟩ (.int .i64 0)) (w.heap.size + 1) 0 0 := R.put 0 0
 obtain ⟨r0, r1, r2, r3, r4⟩ := R
 go_wp2_with fail
 generalize ((v3.setCell ⟨w.heap.size + 1, 0, none⟩ (.int .i64 0)).setCell ⟨w.heap.size + 1, 1, none⟩ (.int .i64 0)) = w9 at *
 obtain ⟨m0, m1, m2, m3, m4⟩ := R9
 exact bodyPost_ret (v := .tuple #[.agg #[.int .i64 0, .int .i64 0], .int .i64 3]) (by simp (maxDischargeDepth := 6) [results, Tryz.results63, go_sem, m1, m2]) rfl ⟨rfl, B9⟩
theorem mY (ol oh : Int) (a : Option Addr) (n c : Nat) (f : Nat → Int × Int) (ff le : Int) (w : World) (hm : n ≤ maxLen) (hs : Src w a n f) (hsb : ba f n = true) (hf0 : 0 ≤ ff) (hl1 : 1 ≤ le) (hn1 : le ≤ (n : Int)) (hn2 : ff < (n : Int)) (hhb : hlB (rnL f n ((n : Int) - ff)) = true) :
 Calls Tryz.prog 63 #[.agg #[.int .i64 ol, .int .i64 oh], .bool false, .slice a n c, .int .i64 ff, .int .i64 le] w fun e w' => e = .returned (.tuple #[.agg #[.int .i64 (hlL (rnL f n ((n : Int) - ff))), .int .i64 (hlH (rnL f n ((n : Int) - ff)))], .int .i64 0]) ∧ Below w.heap.size w w' := by
 have HS : Hid (Src w a n f) := hs
 have O := (Vb.new w ol oh 47).below (Below.al9 (w.alloc (.cells #[.int .i64 ol, .int .i64 oh] 47)) (.cells #[.int .i64 0, .int .i64 0] 47))
 have R := Vb.new (w.alloc (.cells #[.int .i64 ol, .int .i64 oh] 47)) 0 0 47
 simp only [World.size_alloc] at R
 have B := (Below.al9 w (.cells #[.int .i64 ol, .int .i64 oh] 47)).trans ((Below.al9 (w.alloc (.cells #[.int .i64 ol, .int .i64 oh] 47)) (.cells #[.int .i64 0, .int .i64 0] 47)).mono (by simp))
 have CS := aI a n c f ((w.alloc (.cells #[.int .i64 ol, .int .i64 oh] 47)).alloc (.cells #[.int .i64 0, .int .i64 0] 47)) hm (HS.out.below B)
 have CH := fun (v : World) (hb : Below w.heap.size w v) => dx a n c f ((n : Int) - ff) v hm (HS.out.below hb)
 have hn12 := (bC hsb).1
 rw [hhb] at CH
 generalize hlL (rnL f n ((n : Int) - ff)) = xl at *
 generalize hlH (rnL f n ((n : Int) - ff)) = xh at *
 unfold maxLen at hm
 go_enter Tryz.func63, Tryz.ntmps63
 go_wp2_with fail
 refine CS.mono ?_
 rintro e w1 ⟨rfl, hb⟩
 rw [hsb]
 replace O := O.below hb
 replace R := R.below hb
 replace B := B.trans (hb.mono B.size)
 clear hb CS
 go_wp2_with fail
 refine (CH _ B).mono ?_
 rintro e w3 ⟨rfl, hb⟩
 replace O := O.below hb
 replace R := R.below hb
 replace B := B.trans (hb.mono B.size)
 clear hb CH
 have A := Below.al9 w3 (.cells #[.int .i64 xl, .int .i64 xh] 47)
 have X := Vb.new w3 xl xh 47
 have hj3 := R.1
 replace O := O.below A
 replace R := R.below A
 replace B := B.trans (A.mono B.size)
 clear A
 go_upto_region 6 with fail
 generalize hs3 : w3.heap.size = j3 at *
 generalize w3.alloc (.cells #[.int .i64 xl, .int .i64 xh] 47) = v3 at *
 clear hs3
 have B9 : Below w.heap.size w ((v3.setCell ⟨w.heap.size + 1, 0, none⟩ (.int .i64 xl)).setCell ⟨w.heap.size + 1, 1, none⟩ (.int .i64 xh)) := Below.put2 B (Nat.le_succ _) xl xh
 have R9 : Vb ((v3.setCell ⟨w.heap.size + 1, 0, none⟩ (.int .i64 xl)).setCell ⟨w.heap.size + 1, 1, none⟩ (.int .i64 xh)) (w.heap.size + 1) xl xh := R.put xl xh
 obtain ⟨r0, r1, r2, r3, r4⟩ := R
 obtain ⟨x0, x1, x2, x3, x4⟩ := X
 go_wp2_with fail
 generalize ((v3.setCell ⟨w.heap.size + 1, 0, none⟩ (.int .i64 xl)).setCell ⟨w.heap.size + 1, 1, none⟩ (.int .i64 xh)) = w9 at *
 obtain ⟨m0, m1, m2, m3, m4⟩ := R9
 exact bodyPost_ret (v := .tuple #[.agg #[.int .i64 xl, .int .i64 xh], .int .i64 0]) (by simp (maxDischargeDepth := 6) [results, Tryz.results63, go_sem, m1, m2]) rfl ⟨rfl, B9⟩
theorem mZ (ol oh : Int) (a : Option Addr) (n c : Nat) (f : Nat → Int × Int) (ff le : Int) (w : World) (hm : n ≤ maxLen) (hs : Src w a n f) (hsb : ba f n = true) (hf0 : 0 ≤ ff) (hl1 : 1 ≤ le) (hok : okI ol oh = true) (hn1 : le ≤ (n : Int)) (hn2 : ff < (n : Int)) (hhb : hlB (rnL f n ((n : Int) - ff)) = true) (hmt : aZ ol oh (hlL (rnL f n ((n : Int) - ff))) (hlH (rnL f n ((n : Int) - ff))) = false) :
 Calls Tryz.prog 63 #[.agg #[.int .i64 ol, .int .i64 oh], .bool true, .slice a n c, .int .i64 ff, .int .i64 le] w fun e w' => e = .returned (.tuple #[.agg #[.int .i64 0, .int .i64 0], .int .i64 4]) ∧ Below w.heap.size w w' := by
 have HS : Hid (Src w a n f) := hs
 have O := (Vb.new w ol oh 47).below (Below.al9 (w.alloc (.cells #[.int .i64 ol, .int .i64 oh] 47)) (.cells #[.int .i64 0, .int .i64 0] 47))
 have R := Vb.new (w.alloc (.cells #[.int .i64 ol, .int .i64 oh] 47)) 0 0 47
 simp only [World.size_alloc] at R
 have B := (Below.al9 w (.cells #[.int .i64 ol, .int .i64 oh] 47)).trans ((Below.al9 (w.alloc (.cells #[.int .i64 ol, .int .i64 oh] 47)) (.cells #[.int .i64 0, .int .i64 0] 47)).mono (by simp))
 have CS := aI a n c f ((w.alloc (.cells #[.int .i64 ol, .int .i64 oh] 47)).alloc (.cells #[.int .i64 0, .int .i64 0] 47)) hm (HS.out.below B)
 have CH := fun (v : World) (hb : Below w.heap.size w v) => dx a n c f ((n : Int) - ff) v hm (HS.out.below hb)
 have hn12 := (bC hsb).1
 rw [hhb] at CH
 generalize hlL (rnL f n ((n : Int) - ff)) = xl at *
 generalize hlH (rnL f n ((n : Int) - ff)) = xh at *
 unfold maxLen at hm
 rw [gk] at hmt
 have CM := fun (v : World) => eh xl xh ol oh v
 rw [hmt] at CM
 simp only [aK] at CM
 go_enter Tryz.func63, Tryz.ntmps63
 go_wp2_with fail
 refine CS.mono ?_
 rintro e w1 ⟨rfl, hb⟩
 rw [hsb]
 replace O := O.below hb
 replace R := R.below hb
 replace B := B.trans (hb.mono B.size)
 clear hb CS
 have o0 : _ ∧ _ := O
 go_wp2_with fail
 refine (ao _ _ _).mono ?_
 rintro e w2 ⟨rfl, hb⟩
 rw [hok]
 clear o0
 replace O := O.below hb
 replace R := R.below hb
 replace B := B.trans (hb.mono B.size)
 clear hb
 go_wp2_with fail
 refine (CH _ B).mono ?_
 rintro e w3 ⟨rfl, hb⟩
 replace O := O.below hb
 replace R := R.below hb
 replace B := B.trans (hb.mono B.size)
 clear hb CH
 have A := Below.al9 w3 (.cells #[.int .i64 xl, .int .i64 xh] 47)
 have X := Vb.new w3 xl xh 47
 have hj3 := R.1
 replace O := O.below A
 replace R := R.below A
 replace B := B.trans (A.mono B.size)
 clear A
 go_upto_region 6 with fail
 generalize hs3 : w3.heap.size = j3 at *
 generalize w3.alloc (.cells #[.int .i64 xl, .int .i64 xh] 47) = v3 at *
 clear hs3
 have o0 : _ ∧ _ := O
 have x0 : _ ∧ _ := X
 go_wp2_with fail
 refine (CM _).mono ?_
 rintro e w4 ⟨rfl, hb⟩
 clear o0 x0
 replace R := R.below hb
 replace B := B.trans (hb.mono B.size)
 clear hb
 have A := Below.al9 w4 (.cells #[.int .i64 0, .int .i64 0] 47)
 have X := Vb.new w4 0 0 47
 have hj4 := R.1
 replace R := R.below A
 replace B := B.trans (A.mono B.size)
 clear A
 go_upto_region 11 with fail
 generalize hs4 : w4.heap.size = j4 at *
 generalize w4.alloc (.cells #[.int .i64 0, .int .i64 0] 47) = v4 at *
 clear hs4
 have B9 : Below w.heap.size w ((v4.setCell ⟨w.heap.size + 1, 0, none⟩ (.int .i64 0)).setCell ⟨w.heap.size + 1, 1, none⟩ (.int .i64 0)) := Below.put2 B (Nat.le_succ _) 0 0
 have R9 : Vb ((v4.setCell ⟨w.heap.size + 1, 0, none⟩ (.int .i64 0)).setCell ⟨w.heap.size + 1, 1, none⟩ (.int .i64 0)) (w.heap.size + 1) 0 0 := R.put 0 0
 obtain ⟨r0, r1, r2, r3, r4⟩ := R
 go_wp2_with fail
 generalize ((v4.setCell ⟨w.heap.size + 1, 0, none⟩ (.int .i64 0)).setCell ⟨w.heap.size + 1, 1, none⟩ (.int .i64 0)) = w9 at *
 obtain ⟨m0, m1, m2, m3, m4⟩ := R9
 exact bodyPost_ret (v := .tuple #[.agg #[.int .i64 0, .int .i64 0], .int .i64 4]) (by simp (maxDischargeDepth := 6) [results, Tryz.results63, go_sem, m1, m2]) rfl ⟨rfl, B9⟩
theorem m5 (ol oh : Int) (a : Option Addr) (n c : Nat) (f : Nat → Int × Int) (ff le : Int) (w : World) (hm : n ≤ maxLen) (hs : Src w a n f) (hsb : ba f n = true) (hf0 : 0 ≤ ff) (hl1 : 1 ≤ le) (hok : okI ol oh = true) (hn1 : le ≤ (n : Int)) (hn2 : ff < (n : Int)) (hhb : hlB (rnL f n ((n : Int) - ff)) = true) (hmt : aZ ol oh (hlL (rnL f n ((n : Int) - ff))) (hlH (rnL f n ((n : Int) - ff))) = true) :
 Calls Tryz.prog 63 #[.agg #[.int .i64 ol, .int .i64 oh], .bool true, .slice a n c, .int .i64 ff, .int .i64 le] w fun e w' => e = .returned (.tuple #[.agg #[.int .i64 (imx ol (hlL (rnL f n ((n : Int) - ff)))), .int .i64 (imn oh (hlH (rnL f n ((n : Int) - ff))))], .int .i64 0]) ∧ Below w.heap.size w w' := by
 have HS : Hid (Src w a n f) := hs
 have O := (Vb.new w ol oh 47).below (Below.al9 (w.alloc (.cells #[.int .i64 ol, .int .i64 oh] 47)) (.cells #[.int .i64 0, .int .i64 0] 47))
 have R := Vb.new (w.alloc (.cells #[.int .i64 ol, .int .i64 oh] 47)) 0 0 47
 simp only [World.size_alloc] at R
 have B := (Below.al9 w (.cells #[.int .i64 ol, .int .i64 oh] 47)).trans ((Below.al9 (w.alloc (.cells #[.int .i64 ol, .int .i64 oh] 47)) (.cells #[.int .i64 0, .int .i64 0] 47)).mono (by simp))
 have CS := aI a n c f ((w.alloc (.cells #[.int .i64 ol, .int .i64 oh] 47)).alloc (.cells #[.int .i64 0, .int .i64 0] 47)) hm (HS.out.below B)
 have CH := fun (v : World) (hb : Below w.heap.size w v) => dx a n c f ((n : Int) - ff) v hm (HS.out.below hb)
 have hn12 := (bC hsb).1
 rw [hhb] at CH
 generalize hlL (rnL f n ((n : Int) - ff)) = xl at *
 generalize hlH (rnL f n ((n : Int) - ff)) = xh at *
 unfold maxLen at hm
 rw [gk] at hmt
 have CM := fun (v : World) => eh xl xh ol oh v
 rw [hmt] at CM
 simp only [bo] at CM
 go_enter Tryz.func63, Tryz.ntmps63
 go_wp2_with fail
 refine CS.mono ?_
 rintro e w1 ⟨rfl, hb⟩
 rw [hsb]
 replace O := O.below hb
 replace R := R.below hb
 replace B := B.trans (hb.mono B.size)
 clear hb CS
 have o0 : _ ∧ _ := O
 go_wp2_with fail
 refine (ao _ _ _).mono ?_
 rintro e w2 ⟨rfl, hb⟩
 rw [hok]
 clear o0
 replace O := O.below hb
 replace R := R.below hb
 replace B := B.trans (hb.mono B.size)
 clear hb
 go_wp2_with fail
 refine (CH _ B).mono ?_
 rintro e w3 ⟨rfl, hb⟩
 replace O := O.below hb
 replace R := R.below hb
 replace B := B.trans (hb.mono B.size)
 clear hb CH
 have A := Below.al9 w3 (.cells #[.int .i64 xl, .int .i64 xh] 47)
 have X := Vb.new w3 xl xh 47
 have hj3 := R.1
 replace O := O.below A
 replace R := R.below A
 replace B := B.trans (A.mono B.size)
 clear A
 go_upto_region 6 with fail
 generalize hs3 : w3.heap.size = j3 at *
 generalize w3.alloc (.cells #[.int .i64 xl, .int .i64 xh] 47) = v3 at *
 clear hs3
 have o0 : _ ∧ _ := O
 obtain ⟨x0, x1, x2, x3, x4⟩ := id X
 go_wp2_with fail
 refine (CM _).mono ?_
 rintro e w4 ⟨rfl, hb⟩
 clear o0 x0 x1 x2 x3 x4
 replace R := R.below hb
 replace B := B.trans (hb.mono B.size)
 clear hb
 have A := Below.al9 w4 (.cells #[.int .i64 (imx xl ol), .int .i64 (imn xh oh)] 47)
 have X := Vb.new w4 (imx xl ol) (imn xh oh) 47
 have hj4 := R.1
 replace R := R.below A
 replace B := B.trans (A.mono B.size)
 clear A
 go_upto_region 11 with fail
 generalize hs4 : w4.heap.size = j4 at *
 generalize w4.alloc (.cells #[.int .i64 (imx xl ol), .int .i64 (imn xh oh)] 47) = v4 at *
 clear hs4
 have B9 : Below w.heap.size w ((v4.setCell ⟨w.heap.size + 1, 0, none⟩ (.int .i64 (imx xl ol))).setCell ⟨w.heap.size + 1, 1, none⟩ (.int .i64 (imn xh oh))) := Below.put2 B (Nat.le_succ _) (imx xl ol) (imn xh oh)
 have R9 : Vb ((v4.setCell ⟨w.heap.size + 1, 0, none⟩ (.int .i64 (imx xl ol))).setCell ⟨w.heap.size + 1, 1, none⟩ (.int .i64 (imn xh oh))) (w.heap.size + 1) (imx xl ol) (imn xh oh) := R.put (imx xl ol) (imn xh oh)
 obtain ⟨r0, r1, r2, r3, r4⟩ := R
 obtain ⟨x0, x1, x2, x3, x4⟩ := X
 go_wp2_with fail
 generalize ((v4.setCell ⟨w.heap.size + 1, 0, none⟩ (.int .i64 (imx xl ol))).setCell ⟨w.heap.size + 1, 1, none⟩ (.int .i64 (imn xh oh))) = w9 at *
 obtain ⟨m0, m1, m2, m3, m4⟩ := R9
 exact bodyPost_ret (v := .tuple #[.agg #[.int .i64 (imx xl ol), .int .i64 (imn xh oh)], .int .i64 0]) (by simp (maxDischargeDepth := 6) [results, Tryz.results63, go_sem, m1, m2]) rfl ⟨by rw [kF xl ol, kw xh oh], B9⟩
theorem ml (ol oh : Int) (a : Option Addr) (n c : Nat) (f : Nat → Int × Int) (ff le : Int) (w : World) (hm : n ≤ maxLen) (hs : Src w a n f) (kn : Bool) (hsb : ba f n = false) :
 Calls Tryz.prog 108 #[.agg #[.int .i64 ol, .int .i64 oh], .bool kn, .slice a n c, .int .i64 ff, .int .i64 le] w fun e w' => e = .returned (.tuple #[.agg #[.int .i64 0, .int .i64 0], .int .i64 1]) ∧ Below w.heap.size w w' := by
 have HS : Hid (Src w a n f) := hs
 have O := (Vb.new w ol oh 47).below (Below.al9 (w.alloc (.cells #[.int .i64 ol, .int .i64 oh] 47)) (.cells #[.int .i64 0, .int .i64 0] 47))
 have R := Vb.new (w.alloc (.cells #[.int .i64 ol, .int .i64 oh] 47)) 0 0 47
 simp only [World.size_alloc] at R
 have B := (Below.al9 w (.cells #[.int .i64 ol, .int .i64 oh] 47)).trans ((Below.al9 (w.alloc (.cells #[.int .i64 ol, .int .i64 oh] 47)) (.cells #[.int .i64 0, .int .i64 0] 47)).mono (by simp))
 have CS := aO a n c f ((w.alloc (.cells #[.int .i64 ol, .int .i64 oh] 47)).alloc (.cells #[.int .i64 0, .int .i64 0] 47)) hm (HS.out.below B)
 unfold maxLen at hm
 go_enter Tryz.func108, Tryz.ntmps108
 go_wp2_with fail
 refine CS.mono ?_
 rintro e w1 ⟨rfl, hb⟩
 rw [hsb]
 replace O := O.below hb
 replace R := R.below hb
 replace B := B.trans (hb.mono B.size)
 clear hb CS
 have B9 : Below w.heap.size w ((w1.setCell ⟨w.heap.size + 1, 0, none⟩ (.int .i64 0)).setCell ⟨w.heap.size + 1, 1, none⟩ (.int .i64 0)) := Below.put2 B (Nat.le_succ _) 0 0
 have R9 : Vb ((w1.setCell ⟨w.heap.size + 1, 0, none⟩ (.int .i64 0)).setCell ⟨w.heap.size + 1, 1, none⟩ (.int .i64 0)) (w.heap.size + 1) 0 0 := R.put 0 0
 obtain ⟨r0, r1, r2, r3, r4⟩ := R
 go_wp2_with fail
 generalize ((w1.setCell ⟨w.heap.size + 1, 0, none⟩ (.int .i64 0)).setCell ⟨w.heap.size + 1, 1, none⟩ (.int .i64 0)) = w9 at *
 obtain ⟨m0, m1, m2, m3, m4⟩ := R9
 exact bodyPost_ret (v := .tuple #[.agg #[.int .i64 0, .int .i64 0], .int .i64 1]) (by simp (maxDischargeDepth := 6) [results, Tryz.results108, go_sem, m1, m2]) rfl ⟨rfl, B9⟩
theorem mm (ol oh : Int) (a : Option Addr) (n c : Nat) (f : Nat → Int × Int) (ff le : Int) (w : World) (hm : n ≤ maxLen) (hs : Src w a n f) (kn : Bool) (hsb : ba f n = true) (hf0 : ff < 0) :
 Calls Tryz.prog 108 #[.agg #[.int .i64 ol, .int .i64 oh], .bool kn, .slice a n c, .int .i64 ff, .int .i64 le] w fun e w' => e = .returned (.tuple #[.agg #[.int .i64 0, .int .i64 0], .int .i64 1]) ∧ Below w.heap.size w w' := by
 have HS : Hid (Src w a n f) := hs
 have O := (Vb.new w ol oh 47).below (Below.al9 (w.alloc (.cells #[.int .i64 ol, .int .i64 oh] 47)) (.cells #[.int .i64 0, .int .i64 0] 47))
 have R := Vb.new (w.alloc (.cells #[.int .i64 ol, .int .i64 oh] 47)) 0 0 47
 simp only [World.size_alloc] at R
 have B := (Below.al9 w (.cells #[.int .i64 ol, .int .i64 oh] 47)).trans ((Below.al9 (w.alloc (.cells #[.int .i64 ol, .int .i64 oh] 47)) (.cells #[.int .i64 0, .int .i64 0] 47)).mono (by simp))
 have CS := aO a n c f ((w.alloc (.cells #[.int .i64 ol, .int .i64 oh] 47)).alloc (.cells #[.int .i64 0, .int .i64 0] 47)) hm (HS.out.below B)
 unfold maxLen at hm
 go_enter Tryz.func108, Tryz.ntmps108
 go_wp2_with fail
 refine CS.mono ?_
 rintro e w1 ⟨rfl, hb⟩
 rw [hsb]
 replace O := O.below hb
 replace R := R.below hb
 replace B := B.trans (hb.mono B.size)
 clear hb CS
 have B9 : Below w.heap.size w ((w1.setCell ⟨w.heap.size + 1, 0, none⟩ (.int .i64 0)).setCell ⟨w.heap.size + 1, 1, none⟩ (.int .i64 0)) := Below.put2 B (Nat.le_succ _) 0 0
 have R9 : Vb ((w1.setCell ⟨w.heap.size + 1, 0, none⟩ (.int .i64 0)).setCell ⟨w.heap.size + 1, 1, none⟩ (.int .i64 0)) (w.heap.size + 1) 0 0 := R.put 0 0
 obtain ⟨r0, r1, r2, r3, r4⟩ := R
 go_wp2_with fail
 generalize ((w1.setCell ⟨w.heap.size + 1, 0, none⟩ (.int .i64 0)).setCell ⟨w.heap.size + 1, 1, none⟩ (.int .i64 0)) = w9 at *
 obtain ⟨m0, m1, m2, m3, m4⟩ := R9
 exact bodyPost_ret (v := .tuple #[.agg #[.int .i64 0, .int .i64 0], .int .i64 1]) (by simp (maxDischargeDepth := 6) [results, Tryz.results108, go_sem, m1, m2]) rfl ⟨rfl, B9⟩
theorem mn (ol oh : Int) (a : Option Addr) (n c : Nat) (f : Nat → Int × Int) (ff le : Int) (w : World) (hm : n ≤ maxLen) (hs : Src w a n f) (kn : Bool) (hsb : ba f n = true) (hf0 : 0 ≤ ff) (hl1 : le < 1) :
 Calls Tryz.prog 108 #[.agg #[.int .i64 ol, .int .i64 oh], .bool kn, .slice a n c, .int .i64 ff, .int .i64 le] w fun e w' => e = .returned (.tuple #[.agg #[.int .i64 0, .int .i64 0], .int .i64 1]) ∧ Below w.heap.size w w' := by
 have HS : Hid (Src w a n f) := hs
 have O := (Vb.new w ol oh 47).below (Below.al9 (w.alloc (.cells #[.int .i64 ol, .int .i64 oh] 47)) (.cells #[.int .i64 0, .int .i64 0] 47))
 have R := Vb.new (w.alloc (.cells #[.int .i64 ol, .int .i64 oh] 47)) 0 0 47
 simp only [World.size_alloc] at R
 have B := (Below.al9 w (.cells #[.int .i64 ol, .int .i64 oh] 47)).trans ((Below.al9 (w.alloc (.cells #[.int .i64 ol, .int .i64 oh] 47)) (.cells #[.int .i64 0, .int .i64 0] 47)).mono (by simp))
 have CS := aO a n c f ((w.alloc (.cells #[.int .i64 ol, .int .i64 oh] 47)).alloc (.cells #[.int .i64 0, .int .i64 0] 47)) hm (HS.out.below B)
 unfold maxLen at hm
 go_enter Tryz.func108, Tryz.ntmps108
 go_wp2_with fail
 refine CS.mono ?_
 rintro e w1 ⟨rfl, hb⟩
 rw [hsb]
 replace O := O.below hb
 replace R := R.below hb
 replace B := B.trans (hb.mono B.size)
 clear hb CS
 have B9 : Below w.heap.size w ((w1.setCell ⟨w.heap.size + 1, 0, none⟩ (.int .i64 0)).setCell ⟨w.heap.size + 1, 1, none⟩ (.int .i64 0)) := Below.put2 B (Nat.le_succ _) 0 0
 have R9 : Vb ((w1.setCell ⟨w.heap.size + 1, 0, none⟩ (.int .i64 0)).setCell ⟨w.heap.size + 1, 1, none⟩ (.int .i64 0)) (w.heap.size + 1) 0 0 := R.put 0 0
 obtain ⟨r0, r1, r2, r3, r4⟩ := R
 go_wp2_with fail
 generalize ((w1.setCell ⟨w.heap.size + 1, 0, none⟩ (.int .i64 0)).setCell ⟨w.heap.size + 1, 1, none⟩ (.int .i64 0)) = w9 at *
 obtain ⟨m0, m1, m2, m3, m4⟩ := R9
 exact bodyPost_ret (v := .tuple #[.agg #[.int .i64 0, .int .i64 0], .int .i64 1]) (by simp (maxDischargeDepth := 6) [results, Tryz.results108, go_sem, m1, m2]) rfl ⟨rfl, B9⟩
theorem mp (ol oh : Int) (a : Option Addr) (n c : Nat) (f : Nat → Int × Int) (ff le : Int) (w : World) (hm : n ≤ maxLen) (hs : Src w a n f) (hsb : ba f n = true) (hf0 : 0 ≤ ff) (hl1 : 1 ≤ le) (hok : okI ol oh = false) :
 Calls Tryz.prog 108 #[.agg #[.int .i64 ol, .int .i64 oh], .bool true, .slice a n c, .int .i64 ff, .int .i64 le] w fun e w' => e = .returned (.tuple #[.agg #[.int .i64 0, .int .i64 0], .int .i64 1]) ∧ Below w.heap.size w w' := by
 have HS : Hid (Src w a n f) := hs
 have O := (Vb.new w ol oh 47).below (Below.al9 (w.alloc (.cells #[.int .i64 ol, .int .i64 oh] 47)) (.cells #[.int .i64 0, .int .i64 0] 47))
 have R := Vb.new (w.alloc (.cells #[.int .i64 ol, .int .i64 oh] 47)) 0 0 47
 simp only [World.size_alloc] at R
 have B := (Below.al9 w (.cells #[.int .i64 ol, .int .i64 oh] 47)).trans ((Below.al9 (w.alloc (.cells #[.int .i64 ol, .int .i64 oh] 47)) (.cells #[.int .i64 0, .int .i64 0] 47)).mono (by simp))
 have CS := aO a n c f ((w.alloc (.cells #[.int .i64 ol, .int .i64 oh] 47)).alloc (.cells #[.int .i64 0, .int .i64 0] 47)) hm (HS.out.below B)
 unfold maxLen at hm
 go_enter Tryz.func108, Tryz.ntmps108
 go_wp2_with fail
 refine CS.mono ?_
 rintro e w1 ⟨rfl, hb⟩
 rw [hsb]
 replace O := O.below hb
 replace R := R.below hb
 replace B := B.trans (hb.mono B.size)
 clear hb CS
 have o0 : _ ∧ _ := O
 go_wp2_with fail
 refine (bB _ _ _).mono ?_
 rintro e w2 ⟨rfl, hb⟩
 rw [hok]
 clear o0
 replace O := O.below hb
 replace R := R.below hb
 replace B := B.trans (hb.mono B.size)
 clear hb
 have B9 : Below w.heap.size w ((w2.setCell ⟨w.heap.size + 1, 0, none⟩ (.int .i64 0)).setCell ⟨w.heap.size + 1, 1, none⟩ (.int .i64 0)) := Below.put2 B (Nat.le_succ _) 0 0
 have R9 : Vb ((w2.setCell ⟨w.heap.size + 1, 0, none⟩ (.int .i64 0)).setCell ⟨w.heap.size + 1, 1, none⟩ (.int .i64 0)) (w.heap.size + 1) 0 0 := R.put 0 0
 obtain ⟨r0, r1, r2, r3, r4⟩ := R
 go_wp2_with fail
 generalize ((w2.setCell ⟨w.heap.size + 1, 0, none⟩ (.int .i64 0)).setCell ⟨w.heap.size + 1, 1, none⟩ (.int .i64 0)) = w9 at *
 obtain ⟨m0, m1, m2, m3, m4⟩ := R9
 exact bodyPost_ret (v := .tuple #[.agg #[.int .i64 0, .int .i64 0], .int .i64 1]) (by simp (maxDischargeDepth := 6) [results, Tryz.results108, go_sem, m1, m2]) rfl ⟨rfl, B9⟩
theorem ky (ol oh : Int) (a : Option Addr) (n c : Nat) (f : Nat → Int × Int) (ff le : Int) (w : World) (hm : n ≤ maxLen) (hs : Src w a n f) (hsb : ba f n = true) (hf0 : 0 ≤ ff) (hl1 : 1 ≤ le) (hok : okI ol oh = true) (hn1 : (n : Int) < le) :
 Calls Tryz.prog 108 #[.agg #[.int .i64 ol, .int .i64 oh], .bool true, .slice a n c, .int .i64 ff, .int .i64 le] w fun e w' => e = .returned (.tuple #[.agg #[.int .i64 0, .int .i64 0], .int .i64 2]) ∧ Below w.heap.size w w' := by
 have HS : Hid (Src w a n f) := hs
 have O := (Vb.new w ol oh 47).below (Below.al9 (w.alloc (.cells #[.int .i64 ol, .int .i64 oh] 47)) (.cells #[.int .i64 0, .int .i64 0] 47))
 have R := Vb.new (w.alloc (.cells #[.int .i64 ol, .int .i64 oh] 47)) 0 0 47
 simp only [World.size_alloc] at R
 have B := (Below.al9 w (.cells #[.int .i64 ol, .int .i64 oh] 47)).trans ((Below.al9 (w.alloc (.cells #[.int .i64 ol, .int .i64 oh] 47)) (.cells #[.int .i64 0, .int .i64 0] 47)).mono (by simp))
 have CS := aO a n c f ((w.alloc (.cells #[.int .i64 ol, .int .i64 oh] 47)).alloc (.cells #[.int .i64 0, .int .i64 0] 47)) hm (HS.out.below B)
 unfold maxLen at hm
 go_enter Tryz.func108, Tryz.ntmps108
 go_wp2_with fail
 refine CS.mono ?_
 rintro e w1 ⟨rfl, hb⟩
 rw [hsb]
 replace O := O.below hb
 replace R := R.below hb
 replace B := B.trans (hb.mono B.size)
 clear hb CS
 have o0 : _ ∧ _ := O
 go_wp2_with fail
 refine (bB _ _ _).mono ?_
 rintro e w2 ⟨rfl, hb⟩
 rw [hok]
 clear o0
 replace O := O.below hb
 replace R := R.below hb
 replace B := B.trans (hb.mono B.size)
 clear hb
 have B9 : Below w.heap.size w ((w2.setCell ⟨w.heap.size + 1, 0, none⟩ (.int .i64 0)).setCell ⟨w.heap.size + 1, 1, none⟩ (.int .i64 0)) := Below.put2 B (Nat.le_succ _) 0 0
 have R9 : Vb ((w2.setCell ⟨w.heap.size + 1, 0, none⟩ (.int .i64 0)).setCell ⟨w.heap.size + 1, 1, none⟩ (.int .i64 0)) (w.heap.size + 1) 0 0 := R.put 0 0
 obtain ⟨r0, r1, r2, r3, r4⟩ := R
 go_wp2_with fail
 generalize ((w2.setCell ⟨w.heap.size + 1, 0, none⟩ (.int .i64 0)).setCell ⟨w.heap.size + 1, 1, none⟩ (.int .i64 0)) = w9 at *
 obtain ⟨m0, m1, m2, m3, m4⟩ := R9
 exact bodyPost_ret (v := .tuple #[.agg #[.int .i64 0, .int .i64 0], .int .i64 2]) (by simp (maxDischargeDepth := 6) [results, Tryz.results108, go_sem, m1, m2]) rfl ⟨rfl, B9⟩
theorem kA (ol oh : Int) (a : Option Addr) (n c : Nat) (f : Nat → Int × Int) (ff le : Int) (w : World) (hm : n ≤ maxLen) (hs : Src w a n f) (hsb : ba f n = true) (hf0 : 0 ≤ ff) (hl1 : 1 ≤ le) (hok : okI ol oh = true) (hn1 : le ≤ (n : Int)) (hn2 : (n : Int) ≤ ff) :
 Calls Tryz.prog 108 #[.agg #[.int .i64 ol, .int .i64 oh], .bool true, .slice a n c, .int .i64 ff, .int .i64 le] w fun e w' => e = .returned (.tuple #[.agg #[.int .i64 0, .int .i64 0], .int .i64 2]) ∧ Below w.heap.size w w' := by
 have HS : Hid (Src w a n f) := hs
 have O := (Vb.new w ol oh 47).below (Below.al9 (w.alloc (.cells #[.int .i64 ol, .int .i64 oh] 47)) (.cells #[.int .i64 0, .int .i64 0] 47))
 have R := Vb.new (w.alloc (.cells #[.int .i64 ol, .int .i64 oh] 47)) 0 0 47
 simp only [World.size_alloc] at R
 have B := (Below.al9 w (.cells #[.int .i64 ol, .int .i64 oh] 47)).trans ((Below.al9 (w.alloc (.cells #[.int .i64 ol, .int .i64 oh] 47)) (.cells #[.int .i64 0, .int .i64 0] 47)).mono (by simp))
 have CS := aO a n c f ((w.alloc (.cells #[.int .i64 ol, .int .i64 oh] 47)).alloc (.cells #[.int .i64 0, .int .i64 0] 47)) hm (HS.out.below B)
 unfold maxLen at hm
 go_enter Tryz.func108, Tryz.ntmps108
 go_wp2_with fail
 refine CS.mono ?_
 rintro e w1 ⟨rfl, hb⟩
 rw [hsb]
 replace O := O.below hb
 replace R := R.below hb
 replace B := B.trans (hb.mono B.size)
 clear hb CS
 have o0 : _ ∧ _ := O
 go_wp2_with fail
 refine (bB _ _ _).mono ?_
 rintro e w2 ⟨rfl, hb⟩
 rw [hok]
 clear o0
 replace O := O.below hb
 replace R := R.below hb
 replace B := B.trans (hb.mono B.size)
 clear hb
 have B9 : Below w.heap.size w ((w2.setCell ⟨w.heap.size + 1, 0, none⟩ (.int .i64 0)).setCell ⟨w.heap.size + 1, 1, none⟩ (.int .i64 0)) := Below.put2 B (Nat.le_succ _) 0 0
 have R9 : Vb ((w2.setCell ⟨w.heap.size + 1, 0, none⟩ (.int .i64 0)).setCell ⟨w.heap.size + 1, 1, none⟩ (.int .i64 0)) (w.heap.size + 1) 0 0 := R.put 0 0
 obtain ⟨r0, r1, r2, r3, r4⟩ := R
 go_wp2_with fail
 generalize ((w2.setCell ⟨w.heap.size + 1, 0, none⟩ (.int .i64 0)).setCell ⟨w.heap.size + 1, 1, none⟩ (.int .i64 0)) = w9 at *
 obtain ⟨m0, m1, m2, m3, m4⟩ := R9
 exact bodyPost_ret (v := .tuple #[.agg #[.int .i64 0, .int .i64 0], .int .i64 2]) (by simp (maxDischargeDepth := 6) [results, Tryz.results108, go_sem, m1, m2]) rfl ⟨rfl, B9⟩
theorem kD (ol oh : Int) (a : Option Addr) (n c : Nat) (f : Nat → Int × Int) (ff le : Int) (w : World) (hm : n ≤ maxLen) (hs : Src w a n f) (hsb : ba f n = true) (hf0 : 0 ≤ ff) (hl1 : 1 ≤ le) (hok : okI ol oh = true) (hn1 : le ≤ (n : Int)) (hn2 : ff < (n : Int)) (hhb : hlB (rnL f n ((n : Int) - ff)) = false) :
 Calls Tryz.prog 108 #[.agg #[.int .i64 ol, .int .i64 oh], .bool true, .slice a n c, .int .i64 ff, .int .i64 le] w fun e w' => e = .returned (.tuple #[.agg #[.int .i64 0, .int .i64 0], .int .i64 3]) ∧ Below w.heap.size w w' := by
 have HS : Hid (Src w a n f) := hs
 have O := (Vb.new w ol oh 47).below (Below.al9 (w.alloc (.cells #[.int .i64 ol, .int .i64 oh] 47)) (.cells #[.int .i64 0, .int .i64 0] 47))
 have R := Vb.new (w.alloc (.cells #[.int .i64 ol, .int .i64 oh] 47)) 0 0 47
 simp only [World.size_alloc] at R
 have B := (Below.al9 w (.cells #[.int .i64 ol, .int .i64 oh] 47)).trans ((Below.al9 (w.alloc (.cells #[.int .i64 ol, .int .i64 oh] 47)) (.cells #[.int .i64 0, .int .i64 0] 47)).mono (by simp))
 have CS := aO a n c f ((w.alloc (.cells #[.int .i64 ol, .int .i64 oh] 47)).alloc (.cells #[.int .i64 0, .int .i64 0] 47)) hm (HS.out.below B)
 have CH := fun (v : World) (hb : Below w.heap.size w v) => dt a n c f ((n : Int) - ff) v hm (HS.out.below hb)
 have hn12 := (bC hsb).1
 rw [hhb] at CH
 generalize hlL (rnL f n ((n : Int) - ff)) = xl at *
 generalize hlH (rnL f n ((n : Int) - ff)) = xh at *
 unfold maxLen at hm
 go_enter Tryz.func108, Tryz.ntmps108
 go_wp2_with fail
 refine CS.mono ?_
 rintro e w1 ⟨rfl, hb⟩
 rw [hsb]
 replace O := O.below hb
 replace R := R.below hb
 replace B := B.trans (hb.mono B.size)
 clear hb CS
 have o0 : _ ∧ _ := O
 go_wp2_with fail
 refine (bB _ _ _).mono ?_
 rintro e w2 ⟨rfl, hb⟩
 rw [hok]
 clear o0
 replace O := O.below hb
 replace R := R.below hb
 replace B := B.trans (hb.mono B.size)
 clear hb
 go_wp2_with fail
 refine (CH _ B).mono ?_
 rintro e w3 ⟨rfl, hb⟩
 replace O := O.below hb
 replace R := R.below hb
 replace B := B.trans (hb.mono B.size)
 clear hb CH
 have A := Below.al9 w3 (.cells #[.int .i64 xl, .int .i64 xh] 47)
 have X := Vb.new w3 xl xh 47
 have hj3 := R.1
 replace O := O.below A
 replace R := R.below A
 replace B := B.trans (A.mono B.size)
 clear A
 go_upto_region 6 with fail
 generalize hs3 : w3.heap.size = j3 at *
 generalize w3.alloc (.cells #[.int .i64 xl, .int .i64 xh] 47) = v3 at *
 clear hs3
 have B9 : Below w.heap.size w ((v3.setCell ⟨w.heap.size + 1, 0, none⟩ (.int .i64 0)).setCell ⟨w.heap.size + 1, 1, none⟩ (.int .i64 0)) := Below.put2 B (Nat.le_succ _) 0 0
 have R9 : Vb ((v3.setCell ⟨w.heap.size + 1, 0, none⟩ (.int .i64 0)).setCell ⟨w.heap.size + 1, 1, none⟩ (.int .i64 0)) (w.heap.size + 1) 0 0 := R.put 0 0
 obtain ⟨r0, r1, r2, r3, r4⟩ := R
 go_wp2_with fail
 generalize ((v3.setCell ⟨w.heap.size + 1, 0, none⟩ (.int .i64 0)).setCell ⟨w.heap.size + 1, 1, none⟩ (.int .i64 0)) = w9 at *
 obtain ⟨m0, m1, m2, m3, m4⟩ := R9
 exact bodyPost_ret (v := .tuple #[.agg #[.int .i64 0, .int .i64 0], .int .i64 3]) (by simp (maxDischargeDepth := 6) [results, Tryz.results108, go_sem, m1, m2]) rfl ⟨rfl, B9⟩
theorem kx (ol oh : Int) (a : Option Addr) (n c : Nat) (f : Nat → Int × Int) (ff le : Int) (w : World) (hm : n ≤ maxLen) (hs : Src w a n f) (hsb : ba f n = true) (hf0 : 0 ≤ ff) (hl1 : 1 ≤ le) (hn1 : (n : Int) < le) :
 Calls Tryz.prog 108 #[.agg #[.int .i64 ol, .int .i64 oh], .bool false, .slice a n c, .int .i64 ff, .int .i64 le] w fun e w' => e = .returned (.tuple #[.agg #[.int .i64 0, .int .i64 0], .int .i64 2]) ∧ Below w.heap.size w w' := by
 have HS : Hid (Src w a n f) := hs
 have O := (Vb.new w ol oh 47).below (Below.al9 (w.alloc (.cells #[.int .i64 ol, .int .i64 oh] 47)) (.cells #[.int .i64 0, .int .i64 0] 47))
 have R := Vb.new (w.alloc (.cells #[.int .i64 ol, .int .i64 oh] 47)) 0 0 47
 simp only [World.size_alloc] at R
 have B := (Below.al9 w (.cells #[.int .i64 ol, .int .i64 oh] 47)).trans ((Below.al9 (w.alloc (.cells #[.int .i64 ol, .int .i64 oh] 47)) (.cells #[.int .i64 0, .int .i64 0] 47)).mono (by simp))
 have CS := aO a n c f ((w.alloc (.cells #[.int .i64 ol, .int .i64 oh] 47)).alloc (.cells #[.int .i64 0, .int .i64 0] 47)) hm (HS.out.below B)
 unfold maxLen at hm
 go_enter Tryz.func108, Tryz.ntmps108
 go_wp2_with fail
 refine CS.mono ?_
 rintro e w1 ⟨rfl, hb⟩
 rw [hsb]
 replace O := O.below hb
 replace R := R.below hb
 replace B := B.trans (hb.mono B.size)
 clear hb CS
 have B9 : Below w.heap.size w ((w1.setCell ⟨w.heap.size + 1, 0, none⟩ (.int .i64 0)).setCell ⟨w.heap.size + 1, 1, none⟩ (.int .i64 0)) := Below.put2 B (Nat.le_succ _) 0 0
 have R9 : Vb ((w1.setCell ⟨w.heap.size + 1, 0, none⟩ (.int .i64 0)).setCell ⟨w.heap.size + 1, 1, none⟩ (.int .i64 0)) (w.heap.size + 1) 0 0 := R.put 0 0
 obtain ⟨r0, r1, r2, r3, r4⟩ := R
 go_wp2_with fail
 generalize ((w1.setCell ⟨w.heap.size + 1, 0, none⟩ (.int .i64 0)).setCell ⟨w.heap.size + 1, 1, none⟩ (.int .i64 0)) = w9 at *
 obtain ⟨m0, m1, m2, m3, m4⟩ := R9
 exact bodyPost_ret (v := .tuple #[.agg #[.int .i64 0, .int .i64 0], .int .i64 2]) (by simp (maxDischargeDepth := 6) [results, Tryz.results108, go_sem, m1, m2]) rfl ⟨rfl, B9⟩
theorem kz (ol oh : Int) (a : Option Addr) (n c : Nat) (f : Nat → Int × Int) (ff le : Int) (w : World) (hm : n ≤ maxLen) (hs : Src w a n f) (hsb : ba f n = true) (hf0 : 0 ≤ ff) (hl1 : 1 ≤ le) (hn1 : le ≤ (n : Int)) (hn2 : (n : Int) ≤ ff) :
 Calls Tryz.prog 108 #[.agg #[.int .i64 ol, .int .i64 oh], .bool false, .slice a n c, .int .i64 ff, .int .i64 le] w fun e w' => e = .returned (.tuple #[.agg #[.int .i64 0, .int .i64 0], .int .i64 2]) ∧ Below w.heap.size w w' := by
 have HS : Hid (Src w a n f) := hs
 have O := (Vb.new w ol oh 47).below (Below.al9 (w.alloc (.cells #[.int .i64 ol, .int .i64 oh] 47)) (.cells #[.int .i64 0, .int .i64 0] 47))
 have R := Vb.new (w.alloc (.cells #[.int .i64 ol, .int .i64 oh] 47)) 0 0 47
 simp only [World.size_alloc] at R
 have B := (Below.al9 w (.cells #[.int .i64 ol, .int .i64 oh] 47)).trans ((Below.al9 (w.alloc (.cells #[.int .i64 ol, .int .i64 oh] 47)) (.cells #[.int .i64 0, .int .i64 0] 47)).mono (by simp))
 have CS := aO a n c f ((w.alloc (.cells #[.int .i64 ol, .int .i64 oh] 47)).alloc (.cells #[.int .i64 0, .int .i64 0] 47)) hm (HS.out.below B)
 unfold maxLen at hm
 go_enter Tryz.func108, Tryz.ntmps108
 go_wp2_with fail
 refine CS.mono ?_
 rintro e w1 ⟨rfl, hb⟩
 rw [hsb]
 replace O := O.below hb
 replace R := R.below hb
 replace B := B.trans (hb.mono B.size)
 clear hb CS
 have B9 : Below w.heap.size w ((w1.setCell ⟨w.heap.size + 1, 0, none⟩ (.int .i64 0)).setCell ⟨w.heap.size + 1, 1, none⟩ (.int .i64 0)) := Below.put2 B (Nat.le_succ _) 0 0
 have R9 : Vb ((w1.setCell ⟨w.heap.size + 1, 0, none⟩ (.int .i64 0)).setCell ⟨w.heap.size + 1, 1, none⟩ (.int .i64 0)) (w.heap.size + 1) 0 0 := R.put 0 0
 obtain ⟨r0, r1, r2, r3, r4⟩ := R
 go_wp2_with fail
 generalize ((w1.setCell ⟨w.heap.size + 1, 0, none⟩ (.int .i64 0)).setCell ⟨w.heap.size + 1, 1, none⟩ (.int .i64 0)) = w9 at *
 obtain ⟨m0, m1, m2, m3, m4⟩ := R9
 exact bodyPost_ret (v := .tuple #[.agg #[.int .i64 0, .int .i64 0], .int .i64 2]) (by simp (maxDischargeDepth := 6) [results, Tryz.results108, go_sem, m1, m2]) rfl ⟨rfl, B9⟩
theorem kC (ol oh : Int) (a : Option Addr) (n c : Nat) (f : Nat → Int × Int) (ff le : Int) (w : World) (hm : n ≤ maxLen) (hs : Src w a n f) (hsb : ba f n = true) (hf0 : 0 ≤ ff) (hl1 : 1 ≤ le) (hn1 : le ≤ (n : Int)) (hn2 : ff < (n : Int)) (hhb : hlB (rnL f n ((n : Int) - ff)) = false) :
 Calls Tryz.prog 108 #[.agg #[.int .i64 ol, .int .i64 oh], .bool false, .slice a n c, .int .i64 ff, .int .i64 le] w fun e w' => e = .returned (.tuple #[.agg #[.int .i64 0, .int .i64 0], .int .i64 3]) ∧ Below w.heap.size w w' := by
 have HS : Hid (Src w a n f) := hs
 have O := (Vb.new w ol oh 47).below (Below.al9 (w.alloc (.cells #[.int .i64 ol, .int .i64 oh] 47)) (.cells #[.int .i64 0, .int .i64 0] 47))
 have R := Vb.new (w.alloc (.cells #[.int .i64 ol, .int .i64 oh] 47)) 0 0 47
 simp only [World.size_alloc] at R
 have B := (Below.al9 w (.cells #[.int .i64 ol, .int .i64 oh] 47)).trans ((Below.al9 (w.alloc (.cells #[.int .i64 ol, .int .i64 oh] 47)) (.cells #[.int .i64 0, .int .i64 0] 47)).mono (by simp))
 have CS := aO a n c f ((w.alloc (.cells #[.int .i64 ol, .int .i64 oh] 47)).alloc (.cells #[.int .i64 0, .int .i64 0] 47)) hm (HS.out.below B)
 have CH := fun (v : World) (hb : Below w.heap.size w v) => dt a n c f ((n : Int) - ff) v hm (HS.out.below hb)
 have hn12 := (bC hsb).1
 rw [hhb] at CH
 generalize hlL (rnL f n ((n : Int) - ff)) = xl at *
 generalize hlH (rnL f n ((n : Int) - ff)) = xh at *
 unfold maxLen at hm
 go_enter Tryz.func108, Tryz.ntmps108
 go_wp2_with fail
 refine CS.mono ?_
 rintro e w1 ⟨rfl, hb⟩
 rw [hsb]
 replace O := O.below hb
 replace R := R.below hb
 replace B := B.trans (hb.mono B.size)
 clear hb CS
 go_wp2_with fail
 refine (CH _ B).mono ?_
 rintro e w3 ⟨rfl, hb⟩
 replace O := O.below hb
 replace R := R.below hb
 replace B := B.trans (hb.mono B.size)
 clear hb CH
 have A := Below.al9 w3 (.cells #[.int .i64 xl, .int .i64 xh] 47)
 have X := Vb.new w3 xl xh 47
 have hj3 := R.1
 replace O := O.below A
 replace R := R.below A
 replace B := B.trans (A.mono B.size)
 clear A
 go_upto_region 6 with fail
 generalize hs3 : w3.heap.size = j3 at *
 generalize w3.alloc (.cells #[.int .i64 xl, .int .i64 xh] 47) = v3 at *
 clear hs3
 have B9 : Below w.heap.size w ((v3.setCell ⟨w.heap.size + 1, 0, none⟩ (.int .i64 0)).setCell ⟨w.heap.size + 1, 1, none⟩ (.int .i64 0)) := Below.put2 B (Nat.le_succ _) 0 0
 have R9 : Vb ((v3.setCell ⟨w.heap.size + 1, 0, none⟩ (.int .i64 0)).setCell ⟨w.heap.size + 1, 1, none⟩ (.int .i64 0)) (w.heap.size + 1) 0 0 := R.put 0 0
 obtain ⟨r0, r1, r2, r3, r4⟩ := R
 go_wp2_with fail
 generalize ((v3.setCell ⟨w.heap.size + 1, 0, none⟩ (.int .i64 0)).setCell ⟨w.heap.size + 1, 1, none⟩ (.int .i64 0)) = w9 at *
 obtain ⟨m0, m1, m2, m3, m4⟩ := R9
 exact bodyPost_ret (v := .tuple #[.agg #[.int .i64 0, .int .i64 0], .int .i64 3]) (by simp (maxDischargeDepth := 6) [results, Tryz.results108, go_sem, m1, m2]) rfl ⟨rfl, B9⟩
theorem mq (ol oh : Int) (a : Option Addr) (n c : Nat) (f : Nat → Int × Int) (ff le : Int) (w : World) (hm : n ≤ maxLen) (hs : Src w a n f) (hsb : ba f n = true) (hf0 : 0 ≤ ff) (hl1 : 1 ≤ le) (hn1 : le ≤ (n : Int)) (hn2 : ff < (n : Int)) (hhb : hlB (rnL f n ((n : Int) - ff)) = true) :
 Calls Tryz.prog 108 #[.agg #[.int .i64 ol, .int .i64 oh], .bool false, .slice a n c, .int .i64 ff, .int .i64 le] w fun e w' => e = .returned (.tuple #[.agg #[.int .i64 (hlL (rnL f n ((n : Int) - ff))), .int .i64 (hlH (rnL f n ((n : Int) - ff)))], .int .i64 0]) ∧ Below w.heap.size w w' := by
 have HS : Hid (Src w a n f) := hs
 have O := (Vb.new w ol oh 47).below (Below.al9 (w.alloc (.cells #[.int .i64 ol, .int .i64 oh] 47)) (.cells #[.int .i64 0, .int .i64 0] 47))
 have R := Vb.new (w.alloc (.cells #[.int .i64 ol, .int .i64 oh] 47)) 0 0 47
 simp only [World.size_alloc] at R
 have B := (Below.al9 w (.cells #[.int .i64 ol, .int .i64 oh] 47)).trans ((Below.al9 (w.alloc (.cells #[.int .i64 ol, .int .i64 oh] 47)) (.cells #[.int .i64 0, .int .i64 0] 47)).mono (by simp))
 have CS := aO a n c f ((w.alloc (.cells #[.int .i64 ol, .int .i64 oh] 47)).alloc (.cells #[.int .i64 0, .int .i64 0] 47)) hm (HS.out.below B)
 have CH := fun (v : World) (hb : Below w.heap.size w v) => dt a n c f ((n : Int) - ff) v hm (HS.out.below hb)
 have hn12 := (bC hsb).1
 rw [hhb] at CH
 generalize hlL (rnL f n ((n : Int) - ff)) = xl at *
 generalize hlH (rnL f n ((n : Int) - ff)) = xh at *
 unfold maxLen at hm
 go_enter Tryz.func108, Tryz.ntmps108
 go_wp2_with fail
 refine CS.mono ?_
 rintro e w1 ⟨rfl, hb⟩
 rw [hsb]
 replace O := O.below hb
 replace R := R.below hb
 replace B := B.trans (hb.mono B.size)
 clear hb CS
 go_wp2_with fail
 refine (CH _ B).mono ?_
 rintro e w3 ⟨rfl, hb⟩
 replace O := O.below hb
 replace R := R.below hb
 replace B := B.trans (hb.mono B.size)
 clear hb CH
 have A := Below.al9 w3 (.cells #[.int .i64 xl, .int .i64 xh] 47)
 have X := Vb.new w3 xl xh 47
 have hj3 := R.1
 replace O := O.below A
 replace R := R.below A
 replace B := B.trans (A.mono B.size)
 clear A
 go_upto_region 6 with fail
 generalize hs3 : w3.heap.size = j3 at *
 generalize w3.alloc (.cells #[.int .i64 xl, .int .i64 xh] 47) = v3 at *
 clear hs3
 have B9 : Below w.heap.size w ((v3.setCell ⟨w.heap.size + 1, 0, none⟩ (.int .i64 xl)).setCell ⟨w.heap.size + 1, 1, none⟩ (.int .i64 xh)) := Below.put2 B (Nat.le_succ _) xl xh
 have R9 : Vb ((v3.setCell ⟨w.heap.size + 1, 0, none⟩ (.int .i64 xl)).setCell ⟨w.heap.size + 1, 1, none⟩ (.int .i64 xh)) (w.heap.size + 1) xl xh := R.put xl xh
 obtain ⟨r0, r1, r2, r3, r4⟩ := R
 obtain ⟨x0, x1, x2, x3, x4⟩ := X
 go_wp2_with fail
 generalize ((v3.setCell ⟨w.heap.size + 1, 0, none⟩ (.int .i64 xl)).setCell ⟨w.heap.size + 1, 1, none⟩ (.int .i64 xh)) = w9 at *
 obtain ⟨m0, m1, m2, m3, m4⟩ := R9
 exact bodyPost_ret (v := .tuple #[.agg #[.int .i64 xl, .int .i64 xh], .int .i64 0]) (by simp (maxDischargeDepth := 6) [results, Tryz.results108, go_sem, m1, m2]) rfl ⟨rfl, B9⟩
theorem mr (ol oh : Int) (a : Option Addr) (n c : Nat) (f : Nat → Int × Int) (ff le : Int) (w : World) (hm : n ≤ maxLen) (hs : Src w a n f) (hsb : ba f n = true) (hf0 : 0 ≤ ff) (hl1 : 1 ≤ le) (hok : okI ol oh = true) (hn1 : le ≤ (n : Int)) (hn2 : ff < (n : Int)) (hhb : hlB (rnL f n ((n : Int) - ff)) = true) (hmt : aZ ol oh (hlL (rnL f n ((n : Int) - ff))) (hlH (rnL f n ((n : Int) - ff))) = false) :
 Calls Tryz.prog 108 #[.agg #[.int .i64 ol, .int .i64 oh], .bool true, .slice a n c, .int .i64 ff, .int .i64 le] w fun e w' => e = .returned (.tuple #[.agg #[.int .i64 0, .int .i64 0], .int .i64 4]) ∧ Below w.heap.size w w' := by
 have HS : Hid (Src w a n f) := hs
 have O := (Vb.new w ol oh 47).below (Below.al9 (w.alloc (.cells #[.int .i64 ol, .int .i64 oh] 47)) (.cells #[.int .i64 0, .int .i64 0] 47))
 have R := Vb.new (w.alloc (.cells #[.int .i64 ol, .int .i64 oh] 47)) 0 0 47
 simp only [World.size_alloc] at R
 have B := (Below.al9 w (.cells #[.int .i64 ol, .int .i64 oh] 47)).trans ((Below.al9 (w.alloc (.cells #[.int .i64 ol, .int .i64 oh] 47)) (.cells #[.int .i64 0, .int .i64 0] 47)).mono (by simp))
 have CS := aO a n c f ((w.alloc (.cells #[.int .i64 ol, .int .i64 oh] 47)).alloc (.cells #[.int .i64 0, .int .i64 0] 47)) hm (HS.out.below B)
 have CH := fun (v : World) (hb : Below w.heap.size w v) => dt a n c f ((n : Int) - ff) v hm (HS.out.below hb)
 have hn12 := (bC hsb).1
 rw [hhb] at CH
 generalize hlL (rnL f n ((n : Int) - ff)) = xl at *
 generalize hlH (rnL f n ((n : Int) - ff)) = xh at *
 unfold maxLen at hm
 have CM := fun (v : World) => da ol oh xl xh v
 rw [hmt] at CM
 simp only [aK] at CM
 go_enter Tryz.func108, Tryz.ntmps108
 go_wp2_with fail
 refine CS.mono ?_
 rintro e w1 ⟨rfl, hb⟩
 rw [hsb]
 replace O := O.below hb
 replace R := R.below hb
 replace B := B.trans (hb.mono B.size)
 clear hb CS
 have o0 : _ ∧ _ := O
 go_wp2_with fail
 refine (bB _ _ _).mono ?_
 rintro e w2 ⟨rfl, hb⟩
 rw [hok]
 clear o0
 replace O := O.below hb
 replace R := R.below hb
 replace B := B.trans (hb.mono B.size)
 clear hb
 go_wp2_with fail
 refine (CH _ B).mono ?_
 rintro e w3 ⟨rfl, hb⟩
 replace O := O.below hb
 replace R := R.below hb
 replace B := B.trans (hb.mono B.size)
 clear hb CH
 have A := Below.al9 w3 (.cells #[.int .i64 xl, .int .i64 xh] 47)
 have X := Vb.new w3 xl xh 47
 have hj3 := R.1
 replace O := O.below A
 replace R := R.below A
 replace B := B.trans (A.mono B.size)
 clear A
 go_upto_region 6 with fail
 generalize hs3 : w3.heap.size = j3 at *
 generalize w3.alloc (.cells #[.int .i64 xl, .int .i64 xh] 47) = v3 at *
 clear hs3
 have o0 : _ ∧ _ := O
 have x0 : _ ∧ _ := X
 go_wp2_with fail
 refine (CM _).mono ?_
 rintro e w4 ⟨rfl, hb⟩
 clear o0 x0
 replace R := R.below hb
 replace B := B.trans (hb.mono B.size)
 clear hb
 have A := Below.al9 w4 (.cells #[.int .i64 0, .int .i64 0] 47)
 have X := Vb.new w4 0 0 47
 have hj4 := R.1
 replace R := R.below A
 replace B := B.trans (A.mono B.size)
 clear A
 go_upto_region 11 with fail
 generalize hs4 : w4.heap.size = j4 at *
 generalize w4.alloc (.cells #[.int .i64 0, .int .i64 0] 47) = v4 at *
 clear hs4
 have B9 : Below w.heap.size w ((v4.setCell ⟨w.heap.size + 1, 0, none⟩ (.int .i64 0)).setCell ⟨w.heap.size + 1, 1, none⟩ (.int .i64 0)) := Below.put2 B (Nat.le_succ _) 0 0
 have R9 : Vb ((v4.setCell ⟨w.heap.size + 1, 0, none⟩ (.int .i64 0)).setCell ⟨w.heap.size + 1, 1, none⟩ (.int .i64 0)) (w.heap.size + 1) 0 0 := R.put 0 0
 obtain ⟨r0, r1, r2, r3, r4⟩ := R
 go_wp2_with fail
 generalize ((v4.setCell ⟨w.heap.size + 1, 0, none⟩ (.int .i64 0)).setCell ⟨w.heap.size + 1, 1, none⟩ (.int .i64 0)) = w9 at *
 obtain ⟨m0, m1, m2, m3, m4⟩ := R9
 exact bodyPost_ret (v := .tuple #[.agg #[.int .i64 0, .int .i64 0], .int .i64 4]) (by simp (maxDischargeDepth := 6) [results, Tryz.results108, go_sem, m1, m2]) rfl ⟨rfl, B9⟩
theorem ms (ol oh : Int) (a : Option Addr) (n c : Nat) (f : Nat → Int × Int) (ff le : Int) (w : World) (hm : n ≤ maxLen) (hs : Src w a n f) (hsb : ba f n = true) (hf0 : 0 ≤ ff) (hl1 : 1 ≤ le) (hok : okI ol oh = true) (hn1 : le ≤ (n : Int)) (hn2 : ff < (n : Int)) (hhb : hlB (rnL f n ((n : Int) - ff)) = true) (hmt : aZ ol oh (hlL (rnL f n ((n : Int) - ff))) (hlH (rnL f n ((n : Int) - ff))) = true) :
 Calls Tryz.prog 108 #[.agg #[.int .i64 ol, .int .i64 oh], .bool true, .slice a n c, .int .i64 ff, .int .i64 le] w fun e w' => e = .returned (.tuple #[.agg #[.int .i64 (imx ol (hlL (rnL f n ((n : Int) - ff)))), .int .i64 (imn oh (hlH (rnL f n ((n : Int) - ff))))], .int .i64 0]) ∧ Below w.heap.size w w' := by
 have HS : Hid (Src w a n f) := hs
 have O := (Vb.new w ol oh 47).below (Below.al9 (w.alloc (.cells #[.int .i64 ol, .int .i64 oh] 47)) (.cells #[.int .i64 0, .int .i64 0] 47))
 have R := Vb.new (w.alloc (.cells #[.int .i64 ol, .int .i64 oh] 47)) 0 0 47
 simp only [World.size_alloc] at R
 have B := (Below.al9 w (.cells #[.int .i64 ol, .int .i64 oh] 47)).trans ((Below.al9 (w.alloc (.cells #[.int .i64 ol, .int .i64 oh] 47)) (.cells #[.int .i64 0, .int .i64 0] 47)).mono (by simp))
 have CS := aO a n c f ((w.alloc (.cells #[.int .i64 ol, .int .i64 oh] 47)).alloc (.cells #[.int .i64 0, .int .i64 0] 47)) hm (HS.out.below B)
 have CH := fun (v : World) (hb : Below w.heap.size w v) => dt a n c f ((n : Int) - ff) v hm (HS.out.below hb)
 have hn12 := (bC hsb).1
 rw [hhb] at CH
 generalize hlL (rnL f n ((n : Int) - ff)) = xl at *
 generalize hlH (rnL f n ((n : Int) - ff)) = xh at *
 unfold maxLen at hm
 have CM := fun (v : World) => da ol oh xl xh v
 rw [hmt] at CM
 simp only [bo] at CM
 go_enter Tryz.func108, Tryz.ntmps108
 go_wp2_with fail
 refine CS.mono ?_
 rintro e w1 ⟨rfl, hb⟩
 rw [hsb]
 replace O := O.below hb
 replace R := R.below hb
 replace B := B.trans (hb.mono B.size)
 clear hb CS
 have o0 : _ ∧ _ := O
 go_wp2_with fail
 refine (bB _ _ _).mono ?_
 rintro e w2 ⟨rfl, hb⟩
 rw [hok]
 clear o0
 replace O := O.below hb
 replace R := R.below hb
 replace B := B.trans (hb.mono B.size)
 clear hb
 go_wp2_with fail
 refine (CH _ B).mono ?_
 rintro e w3 ⟨rfl, hb⟩
 replace O := O.below hb
 replace R := R.below hb
 replace B := B.trans (hb.mono B.size)
 clear hb CH
 have A := Below.al9 w3 (.cells #[.int .i64 xl, .int .i64 xh] 47)
 have X := Vb.new w3 xl xh 47
 have hj3 := R.1
 replace O := O.below A
 replace R := R.below A
 replace B := B.trans (A.mono B.size)
 clear A
 go_upto_region 6 with fail
 generalize hs3 : w3.heap.size = j3 at *
 generalize w3.alloc (.cells #[.int .i64 xl, .int .i64 xh] 47) = v3 at *
 clear hs3
 have o0 : _ ∧ _ := O
 obtain ⟨x0, x1, x2, x3, x4⟩ := id X
 go_wp2_with fail
 refine (CM _).mono ?_
 rintro e w4 ⟨rfl, hb⟩
 clear o0 x0 x1 x2 x3 x4
 replace R := R.below hb
 replace B := B.trans (hb.mono B.size)
 clear hb
 have A := Below.al9 w4 (.cells #[.int .i64 (imx ol xl), .int .i64 (imn oh xh)] 47)
 have X := Vb.new w4 (imx ol xl) (imn oh xh) 47
 have hj4 := R.1
 replace R := R.below A
 replace B := B.trans (A.mono B.size)
 clear A
 go_upto_region 11 with fail
 generalize hs4 : w4.heap.size = j4 at *
 generalize w4.alloc (.cells #[.int .i64 (imx ol xl), .int .i64 (imn oh xh)] 47) = v4 at *
 clear hs4
 have B9 : Below w.heap.size w ((v4.setCell ⟨w.heap.size + 1, 0, none⟩ (.int .i64 (imx ol xl))).setCell ⟨w.heap.size + 1, 1, none⟩ (.int .i64 (imn oh xh))) := Below.put2 B (Nat.le_succ _) (imx ol xl) (imn oh xh)
 have R9 : Vb ((v4.setCell ⟨w.heap.size + 1, 0, none⟩ (.int .i64 (imx ol xl))).setCell ⟨w.heap.size + 1, 1, none⟩ (.int .i64 (imn oh xh))) (w.heap.size + 1) (imx ol xl) (imn oh xh) := R.put (imx ol xl) (imn oh xh)
 obtain ⟨r0, r1, r2, r3, r4⟩ := R
 obtain ⟨x0, x1, x2, x3, x4⟩ := X
 go_wp2_with fail
 generalize ((v4.setCell ⟨w.heap.size + 1, 0, none⟩ (.int .i64 (imx ol xl))).setCell ⟨w.heap.size + 1, 1, none⟩ (.int .i64 (imn oh xh))) = w9 at *
 obtain ⟨m0, m1, m2, m3, m4⟩ := R9
 exact bodyPost_ret (v := .tuple #[.agg #[.int .i64 (imx ol xl), .int .i64 (imn oh xh)], .int .i64 0]) (by simp (maxDischargeDepth := 6) [results, Tryz.results108, go_sem, m1, m2]) rfl ⟨rfl, B9⟩
theorem qI (ol oh : Int) (kn : Bool) (a : Option Addr) (n c : Nat) (f : Nat → Int × Int) (ff le : Int) (w : World) (hm : n ≤ maxLen) (hs : Src w a n f) :
 Calls Tryz.prog 63 #[.agg #[.int .i64 ol, .int .i64 oh], .bool kn, .slice a n c, .int .i64 ff, .int .i64 le] w fun e w' => e = .returned (.tuple #[.agg #[.int .i64 (fuL ol oh kn f n ff le), .int .i64 (fuH ol oh kn f n ff le)], .int .i64 (fuC ol oh kn f n ff le)]) ∧ Below w.heap.size w w' := by
 cases hsb : ba f n
 ·have e : fuC ol oh kn f n ff le = 1 := by simp [fuC, ca, hsb]
  simp only [fuL, fuH, e]; exact mU ol oh a n c f ff le w hm hs kn hsb
 by_cases hf0 : ff < 0
 ·have e : fuC ol oh kn f n ff le = 1 := by simp [fuC, ca, hf0]
  simp only [fuL, fuH, e]; exact mV ol oh a n c f ff le w hm hs kn hsb hf0
 have hf1 : 0 ≤ ff := by omega
 by_cases hl0 : le < 1
 ·have e : fuC ol oh kn f n ff le = 1 := by simp [fuC, ca, hl0]
  simp only [fuL, fuH, e]; exact mW ol oh a n c f ff le w hm hs kn hsb hf1 hl0
 have hl1 : 1 ≤ le := by omega
 cases kn
 ·have eb : ca ol oh false f n ff le = false := by simp [ca, hsb]; omega
  by_cases hn1 : (n : Int) < le
  ·have e : fuC ol oh false f n ff le = 2 := by simp [fuC, eb, cg, hn1]
   simp only [fuL, fuH, e]; exact lE ol oh a n c f ff le w hm hs hsb hf1 hl1 hn1
  by_cases hn2 : (n : Int) ≤ ff
  ·have e : fuC ol oh false f n ff le = 2 := by simp [fuC, eb, cg, hn2]
   simp only [fuL, fuH, e]; exact lG ol oh a n c f ff le w hm hs hsb hf1 hl1 (by omega) hn2
  have ew : cg n ff le = false := by simp [cg]; omega
  cases hhb : hlB (rnL f n ((n : Int) - ff))
  ·have e : fuC ol oh false f n ff le = 3 := by simp [fuC, eb, ew, hhb]
   simp only [fuL, fuH, e]; exact lI ol oh a n c f ff le w hm hs hsb hf1 hl1 (by omega) (by omega) hhb
  ·have e : fuC ol oh false f n ff le = 0 := by simp [fuC, eb, ew, hhb]
   simp only [fuL, fuH, e]; exact mY ol oh a n c f ff le w hm hs hsb hf1 hl1 (by omega) (by omega) hhb
 ·cases hok : okI ol oh
  ·have e : fuC ol oh true f n ff le = 1 := by simp [fuC, ca, hok]
   simp only [fuL, fuH, e]; exact mX ol oh a n c f ff le w hm hs hsb hf1 hl1 hok
  have eb : ca ol oh true f n ff le = false := by simp [ca, hsb, hok]; omega
  by_cases hn1 : (n : Int) < le
  ·have e : fuC ol oh true f n ff le = 2 := by simp [fuC, eb, cg, hn1]
   simp only [fuL, fuH, e]; exact lF ol oh a n c f ff le w hm hs hsb hf1 hl1 hok hn1
  by_cases hn2 : (n : Int) ≤ ff
  ·have e : fuC ol oh true f n ff le = 2 := by simp [fuC, eb, cg, hn2]
   simp only [fuL, fuH, e]; exact lH ol oh a n c f ff le w hm hs hsb hf1 hl1 hok (by omega) hn2
  have ew : cg n ff le = false := by simp [cg]; omega
  cases hhb : hlB (rnL f n ((n : Int) - ff))
  ·have e : fuC ol oh true f n ff le = 3 := by simp [fuC, eb, ew, hhb]
   simp only [fuL, fuH, e]; exact lJ ol oh a n c f ff le w hm hs hsb hf1 hl1 hok (by omega) (by omega) hhb
  ·cases hmt : aZ ol oh (hlL (rnL f n ((n : Int) - ff))) (hlH (rnL f n ((n : Int) - ff)))
   ·have e : fuC ol oh true f n ff le = 4 := by simp [fuC, eb, ew, hhb, hmt]
    simp only [fuL, fuH, e]; exact mZ ol oh a n c f ff le w hm hs hsb hf1 hl1 hok (by omega) (by omega) hhb hmt
   ·have e : fuC ol oh true f n ff le = 0 := by simp [fuC, eb, ew, hhb, hmt]
    simp only [fuL, fuH, e]; exact m5 ol oh a n c f ff le w hm hs hsb hf1 hl1 hok (by omega) (by omega) hhb hmt
theorem p7 (ol oh : Int) (kn : Bool) (a : Option Addr) (n c : Nat) (f : Nat → Int × Int) (ff le : Int) (w : World) (hm : n ≤ maxLen) (hs : Src w a n f) :
 Calls Tryz.prog 108 #[.agg #[.int .i64 ol, .int .i64 oh], .bool kn, .slice a n c, .int .i64 ff, .int .i64 le] w fun e w' => e = .returned (.tuple #[.agg #[.int .i64 (fuL ol oh kn f n ff le), .int .i64 (fuH ol oh kn f n ff le)], .int .i64 (fuC ol oh kn f n ff le)]) ∧ Below w.heap.size w w' := by
 cases hsb : ba f n
 ·have e : fuC ol oh kn f n ff le = 1 := by simp [fuC, ca, hsb]
  simp only [fuL, fuH, e]; exact ml ol oh a n c f ff le w hm hs kn hsb
 by_cases hf0 : ff < 0
 ·have e : fuC ol oh kn f n ff le = 1 := by simp [fuC, ca, hf0]
  simp only [fuL, fuH, e]; exact mm ol oh a n c f ff le w hm hs kn hsb hf0
 have hf1 : 0 ≤ ff := by omega
 by_cases hl0 : le < 1
 ·have e : fuC ol oh kn f n ff le = 1 := by simp [fuC, ca, hl0]
  simp only [fuL, fuH, e]; exact mn ol oh a n c f ff le w hm hs kn hsb hf1 hl0
 have hl1 : 1 ≤ le := by omega
 cases kn
 ·have eb : ca ol oh false f n ff le = false := by simp [ca, hsb]; omega
  by_cases hn1 : (n : Int) < le
  ·have e : fuC ol oh false f n ff le = 2 := by simp [fuC, eb, cg, hn1]
   simp only [fuL, fuH, e]; exact kx ol oh a n c f ff le w hm hs hsb hf1 hl1 hn1
  by_cases hn2 : (n : Int) ≤ ff
  ·have e : fuC ol oh false f n ff le = 2 := by simp [fuC, eb, cg, hn2]
   simp only [fuL, fuH, e]; exact kz ol oh a n c f ff le w hm hs hsb hf1 hl1 (by omega) hn2
  have ew : cg n ff le = false := by simp [cg]; omega
  cases hhb : hlB (rnL f n ((n : Int) - ff))
  ·have e : fuC ol oh false f n ff le = 3 := by simp [fuC, eb, ew, hhb]
   simp only [fuL, fuH, e]; exact kC ol oh a n c f ff le w hm hs hsb hf1 hl1 (by omega) (by omega) hhb
  ·have e : fuC ol oh false f n ff le = 0 := by simp [fuC, eb, ew, hhb]
   simp only [fuL, fuH, e]; exact mq ol oh a n c f ff le w hm hs hsb hf1 hl1 (by omega) (by omega) hhb
 ·cases hok : okI ol oh
  ·have e : fuC ol oh true f n ff le = 1 := by simp [fuC, ca, hok]
   simp only [fuL, fuH, e]; exact mp ol oh a n c f ff le w hm hs hsb hf1 hl1 hok
  have eb : ca ol oh true f n ff le = false := by simp [ca, hsb, hok]; omega
  by_cases hn1 : (n : Int) < le
  ·have e : fuC ol oh true f n ff le = 2 := by simp [fuC, eb, cg, hn1]
   simp only [fuL, fuH, e]; exact ky ol oh a n c f ff le w hm hs hsb hf1 hl1 hok hn1
  by_cases hn2 : (n : Int) ≤ ff
  ·have e : fuC ol oh true f n ff le = 2 := by simp [fuC, eb, cg, hn2]
   simp only [fuL, fuH, e]; exact kA ol oh a n c f ff le w hm hs hsb hf1 hl1 hok (by omega) hn2
  have ew : cg n ff le = false := by simp [cg]; omega
  cases hhb : hlB (rnL f n ((n : Int) - ff))
  ·have e : fuC ol oh true f n ff le = 3 := by simp [fuC, eb, ew, hhb]
   simp only [fuL, fuH, e]; exact kD ol oh a n c f ff le w hm hs hsb hf1 hl1 hok (by omega) (by omega) hhb
  ·cases hmt : aZ ol oh (hlL (rnL f n ((n : Int) - ff))) (hlH (rnL f n ((n : Int) - ff)))
   ·have e : fuC ol oh true f n ff le = 4 := by simp [fuC, eb, ew, hhb, hmt]
    simp only [fuL, fuH, e]; exact mr ol oh a n c f ff le w hm hs hsb hf1 hl1 hok (by omega) (by omega) hhb hmt
   ·have e : fuC ol oh true f n ff le = 0 := by simp [fuC, eb, ew, hhb, hmt]
    simp only [fuL, fuH, e]; exact ms ol oh a n c f ff le w hm hs hsb hf1 hl1 hok (by omega) (by omega) hhb hmt
end Go.Proofs.YtikbjljkakabdaaGreat
