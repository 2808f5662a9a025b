/- The walk of the exact law of PeerAge. -/
import Derived.Test.YtoefgllhggnppaaI113
import Derived.WalkKit
import Derived.WalkSpells
import Derived.WalkLawsBesides
import Derived.Deep.RegionHeld
namespace Go.Proofs.Ytoefgllhggnppaa
open Go.RowKit
set_option linter.unusedVariables false
set_option maxRecDepth 100000 in
set_option maxHeartbeats 16000000 in
theorem lawPeerAge (a : Option Addr) (n c : Nat) (M : Nat → PT) (x : Int) (y : Int) (w : World) (hm : n ≤ maxLen) (hsrc : SrcC w a (n * 5) (MFPeer M)) (hw : ∀ i, i < n → (Lit.int .i64 (M i).1).wf = true) (w_x : (Lit.int .i64 x).wf = true) (w_y : (Lit.int .i64 y).wf = true) :
    Calls Try.prog 10 #[.slice a n c, .int .i64 x, .int .i64 y] w fun e w' => e = .returned (.bool true) ∧ Below w.heap.size w w' := by
  have HA : Hid (SrcC w a (n * 5) (MFPeer M)) := hsrc
  have CS := fun (w' : World) (a' : Option Addr) (h : SrcC w' a' (n * 5) (MFPeer M)) => specPeerAge_any a' n n M x y w' hm h
  have CI := fun (w' : World) (a' : Option Addr) (h : SrcC w' a' (n * 5) (MFPeer M)) => implPeerAge_any a' n n M x y w' hm h w_x w_y
  clear hw hsrc w_x w_y
  generalize pAge M n x y = C0 at *
  have B := Below.refl w.heap.size w
  by_cases hbig : (n : Int) ≤ 1048576
  · have hn : n ≤ 1048576 := by omega
    have HN : Hid ((if (n : Int) ≤ 1048576 then 1048576 - (n : Int) else -1) = 1048576 - (n : Int)) := by rw [Hid, if_pos hbig]
    have hd : decide (1048576 - (n : Int) < 0) = false := by simp; omega
    go_enter Try.func10, Try.ntmps10
    go_wp2_with fail
    refine (szPeerS_any a n c _ _ hm (by omega) (by omega)).mono ?_
    rintro e w' ⟨rfl, rfl⟩
    rw [HN.out]
    go_wp2_with fail
    refine (toPeerS_any a n c M _ hn (HA.out.below B)).mono ?_
    rintro e w2 ⟨rfl, R2, hb⟩
    replace B := B.trans (hb.mono B.size)
    clear hb
    go_wp2_with fail
    refine (CS _ _ (.inr ⟨_, _, rfl, R2.cs (Nat.le_refl _)⟩)).mono ?_
    rintro e w3 ⟨rfl, hb⟩
    replace B := B.trans (hb.mono B.size)
    clear hb R2
    have hJ3 : w.heap.size ≤ w3.heap.size := B.size
    go_wp2_with fail
    refine (toPeerS_any a n c M _ hn (HA.out.below B)).mono ?_
    rintro e w4 ⟨rfl, RX, hb⟩
    replace B := B.trans (hb.mono B.size)
    clear hb
    have hbx : w3.heap.size < w4.heap.size := RX.lt
    generalize hj3 : w3.heap.size = j3 at *
    clear hj3
    go_wp2_with fail
    refine (CI _ _ (.inr ⟨_, _, rfl, RX.cs (Nat.le_refl _)⟩)).mono ?_
    rintro e w6 ⟨rfl, hb⟩
    have hbi : j3 < w4.heap.size := RX.lt
    replace B := B.trans (hb.mono B.size)
    replace RX := RowF.below' hb RX
    have s56 := hb.size
    clear hb
    generalize hj5 : w4.heap.size = j5 at *
    clear hj5
    go_wp2_with fail
    refine (toPeerS_any a n c M _ hn (HA.out.below B)).mono ?_
    rintro e w9 ⟨rfl, R9, hb⟩
    replace B := B.trans (hb.mono B.size)
    replace RX := RowF.below' hb RX
    clear hb
    go_wp2_with fail
    refine (eqPeerS_src _ _ _ _ _ M _ hm (.inr ⟨_, _, rfl, RX.cs (Nat.le_refl _)⟩) (.inr ⟨_, _, rfl, R9.cs (Nat.le_refl _)⟩)).mono ?_
    rintro e w9b ⟨rfl, hb⟩
    replace B := B.trans (hb.mono B.size)
    replace RX := RowF.below' hb RX
    clear hb
    go_wp2_with fail
    go_ret
    exact ⟨rfl, B⟩
  · have HN : Hid ((if (n : Int) ≤ 1048576 then 1048576 - (n : Int) else -1) = -1) := by rw [Hid, if_neg hbig]
    clear CS CI
    go_enter Try.func10, Try.ntmps10
    go_wp2_with fail
    refine (szPeerS_any a n c _ _ hm (by omega) (by omega)).mono ?_
    rintro e w' ⟨rfl, rfl⟩
    rw [HN.out]
    go_wp2_with fail
    go_ret
    exact ⟨rfl, B⟩
end Go.Proofs.Ytoefgllhggnppaa
