/- The walk of the exact law of JudgeFuses. -/
import Derived.Test.YtbicpkelejjnjaaJ204
import Derived.WalkKit
import Derived.WalkSpells
import Derived.WalkLawsBesides
import Derived.Deep.RegionHeld
namespace Go.Proofs.Ytbicpkelejjnjaa
open Go.RowKit
set_option linter.unusedVariables false
set_option maxRecDepth 100000 in
set_option maxHeartbeats 16000000 in
theorem lawJudgeFuses (a : Option Addr) (n c : Nat) (M : Nat → TdT)  (w : World) (hm : n ≤ maxLen) (hsrc : SrcC w a (n * 10) (MFTold M)) (hw : ∀ i, i < n → (Lit.int .i64 (M i).1).wf = true)  :
    Calls Try.prog 5 #[.slice a n c] w fun e w' => e = .returned (.bool true) ∧ Below w.heap.size w w' := by
  have HA : Hid (SrcC w a (n * 10) (MFTold M)) := hsrc
  have CS := fun (w' : World) (a' : Option Addr) (h : SrcC w' a' (n * 10) (MFTold M)) => specJudgeFuses_any a' n n M  w' hm h
  have CI := fun (w' : World) (a' : Option Addr) (h : SrcC w' a' (n * 10) (MFTold M)) => implJudgeFuses_any a' n n M  w' hm h 
  clear hw hsrc 
  generalize jfB M n = C0 at *
  have B := Below.refl w.heap.size w
  by_cases hbig : (n : Int) ≤ 1048576
  · have hn : n ≤ 1048576 := by omega
    have HN : Hid ((if (n : Int) ≤ 1048576 then 1048576 - (n : Int) else -1) = 1048576 - (n : Int)) := by rw [Hid, if_pos hbig]
    have hd : decide (1048576 - (n : Int) < 0) = false := by simp; omega
    go_enter Try.func5, Try.ntmps5
    go_wp2_with fail
    refine (szToldS_any a n c _ _ hm (by omega) (by omega)).mono ?_
    rintro e w' ⟨rfl, rfl⟩
    rw [HN.out]
    go_wp2_with fail
    refine (toToldS_any a n c M _ hn (HA.out.below B)).mono ?_
    rintro e w2 ⟨rfl, R2, hb⟩
    replace B := B.trans (hb.mono B.size)
    clear hb
    go_wp2_with fail
    refine (CS _ _ (.inr ⟨_, _, rfl, R2.cs (Nat.le_refl _)⟩)).mono ?_
    rintro e w3 ⟨rfl, hb⟩
    replace B := B.trans (hb.mono B.size)
    clear hb R2
    have hJ3 : w.heap.size ≤ w3.heap.size := B.size
    go_wp2_with fail
    refine (toToldS_any a n c M _ hn (HA.out.below B)).mono ?_
    rintro e w4 ⟨rfl, RX, hb⟩
    replace B := B.trans (hb.mono B.size)
    clear hb
    have hbx : w3.heap.size < w4.heap.size := RX.lt
    generalize hj3 : w3.heap.size = j3 at *
    clear hj3
    go_wp2_with fail
    refine (CI _ _ (.inr ⟨_, _, rfl, RX.cs (Nat.le_refl _)⟩)).mono ?_
    rintro e w6 ⟨rfl, hb⟩
    have hbi : j3 < w4.heap.size := RX.lt
    replace B := B.trans (hb.mono B.size)
    replace RX := RowF.below' hb RX
    have s56 := hb.size
    clear hb
    generalize hj5 : w4.heap.size = j5 at *
    clear hj5
    go_wp2_with fail
    refine (toToldS_any a n c M _ hn (HA.out.below B)).mono ?_
    rintro e w9 ⟨rfl, R9, hb⟩
    replace B := B.trans (hb.mono B.size)
    replace RX := RowF.below' hb RX
    clear hb
    go_wp2_with fail
    refine (eqToldS_src _ _ _ _ _ M _ hm (.inr ⟨_, _, rfl, RX.cs (Nat.le_refl _)⟩) (.inr ⟨_, _, rfl, R9.cs (Nat.le_refl _)⟩)).mono ?_
    rintro e w9b ⟨rfl, hb⟩
    replace B := B.trans (hb.mono B.size)
    replace RX := RowF.below' hb RX
    clear hb
    go_wp2_with fail
    go_ret
    exact ⟨rfl, B⟩
  · have HN : Hid ((if (n : Int) ≤ 1048576 then 1048576 - (n : Int) else -1) = -1) := by rw [Hid, if_neg hbig]
    clear CS CI
    go_enter Try.func5, Try.ntmps5
    go_wp2_with fail
    refine (szToldS_any a n c _ _ hm (by omega) (by omega)).mono ?_
    rintro e w' ⟨rfl, rfl⟩
    rw [HN.out]
    go_wp2_with fail
    go_ret
    exact ⟨rfl, B⟩
end Go.Proofs.Ytbicpkelejjnjaa
