/- The walk of the exact law of ReadsOk. -/
import Derived.Test.YtdllkfllnljaaaaA137
import Derived.Deep.RegionHeld3
import Derived.WalkKit
import Derived.WalkSpells
import Derived.WalkLawsBesides
import Derived.Deep.RegionHeld
namespace Go.Proofs.Ytdllkfllnljaaaa
open Go.RowKit
set_option linter.unusedVariables false
set_option maxRecDepth 100000 in
set_option maxHeartbeats 16000000 in
theorem lawReadsOk (a : Option Addr) (n c : Nat) (M : Nat → LkT) (a' : Option Addr) (m c' : Nat) (R : Nat → RgT) (w : World) (hn : n ≤ maxLen) (hsrc : SrcC w a (n * 3) (MFLook M)) (hw : ∀ i, i < n → (Lit.int .i64 (M i).2.1).wf = true) (hm : m ≤ maxLen) (hsrc' : SrcC w a' (m * 3) (MFReading R)) (hw' : ∀ i, i < m → (Lit.int .i64 (R i).1).wf = true) :
    Calls Try.prog 9 #[.slice a n c, .slice a' m c'] w fun e w' => e = .returned (.bool true) ∧ Below w.heap.size w w' := by
  have HA : Hid (SrcC w a (n * 3) (MFLook M)) := hsrc
  have HB : Hid (SrcC w a' (m * 3) (MFReading R)) := hsrc'
  have CS := fun (w' : World) (a1 a2 : Option Addr) (h : SrcC w' a1 (n * 3) (MFLook M)) (h' : SrcC w' a2 (m * 3) (MFReading R)) => specReadsOk_any a1 a2 n m n m M R w' hn hm h h'
  have CI := fun (w' : World) (a1 a2 : Option Addr) (h : SrcC w' a1 (n * 3) (MFLook M)) (h' : SrcC w' a2 (m * 3) (MFReading R)) => implReadsOk_any a1 a2 n m n m M R w' hn hm h h'
  clear hw hsrc hw' hsrc'
  generalize rkB M R n m = q at *
  have hq : (q != q) = false := by simp
  have B := Below.refl w.heap.size w
  by_cases hbig : (n : Int) ≤ 1048576
  · have hn' : n ≤ 1048576 := by omega
    have HN : Hid ((if (n : Int) ≤ 1048576 then 1048576 - (n : Int) else -1) = 1048576 - (n : Int)) := by rw [Hid, if_pos hbig]
    have hd : decide (1048576 - (n : Int) < 0) = false := by simp; omega
    by_cases hbig2 : (m : Int) ≤ 1048576 - (n : Int)
    · have hm' : m ≤ 1048576 := by omega
      have HM : Hid ((if (m : Int) ≤ 1048576 - (n : Int) then 1048576 - (n : Int) - (m : Int) else -1) = 1048576 - (n : Int) - (m : Int)) := by rw [Hid, if_pos hbig2]
      have hd2 : decide (1048576 - (n : Int) - (m : Int) < 0) = false := by simp; omega
      go_enter Try.func9, Try.ntmps9
      go_wp2_with fail
      refine (szLookS_any a n c _ _ hn (by omega) (by omega)).mono ?_
      rintro e w' ⟨rfl, rfl⟩
      rw [HN.out]
      go_wp2_with fail
      refine (szReadingS_any a' m c' _ _ hm (by omega) (by omega)).mono ?_
      rintro e w' ⟨rfl, rfl⟩
      rw [HM.out]
      go_wp2_with fail
      refine (toLookS_any a n c M _ hn' (HA.out.below B)).mono ?_
      rintro e w1 ⟨rfl, R1, hb⟩
      replace B := B.trans (hb.mono B.size)
      clear hb
      go_wp2_with fail
      refine (toReadingS_any a' m c' R _ hm' (HB.out.below B)).mono ?_
      rintro e w2 ⟨rfl, R2, hb⟩
      replace B := B.trans (hb.mono B.size)
      replace R1 := RowF.below' hb R1
      clear hb
      go_wp2_with fail
      refine (CS _ _ _ (.inr ⟨_, _, rfl, R1.cs (Nat.le_refl _)⟩) (.inr ⟨_, _, rfl, R2.cs (Nat.le_refl _)⟩)).mono ?_
      rintro e w3 ⟨rfl, hb⟩
      replace B := B.trans (hb.mono B.size)
      replace R1 := RowF.below' hb R1
      replace R2 := RowF.below' hb R2
      clear hb
      clear R1 R2
      go_wp2_with fail
      refine (toLookS_any a n c M _ hn' (HA.out.below B)).mono ?_
      rintro e w4 ⟨rfl, X0, hb⟩
      replace B := B.trans (hb.mono B.size)
      clear hb
      go_wp2_with fail
      refine (toReadingS_any a' m c' R _ hm' (HB.out.below B)).mono ?_
      rintro e w5 ⟨rfl, X1, hb⟩
      replace B := B.trans (hb.mono B.size)
      replace X0 := RowF.below' hb X0
      clear hb
      go_wp2_with fail
      refine (CI _ _ _ (.inr ⟨_, _, rfl, X0.cs (Nat.le_refl _)⟩) (.inr ⟨_, _, rfl, X1.cs (Nat.le_refl _)⟩)).mono ?_
      rintro e w6 ⟨rfl, hb⟩
      replace B := B.trans (hb.mono B.size)
      replace X0 := RowF.below' hb X0
      replace X1 := RowF.below' hb X1
      clear hb
      clear CS CI
      go_wp2_with fail
      refine (toLookS_any a n c M _ hn' (HA.out.below B)).mono ?_
      rintro e w7 ⟨rfl, R7, hb⟩
      replace B := B.trans (hb.mono B.size)
      replace X0 := RowF.below' hb X0
      replace X1 := RowF.below' hb X1
      clear hb
      go_wp2_with fail
      refine (eqLookS_src _ _ _ _ _ M _ hn (.inr ⟨_, _, rfl, X0.cs (Nat.le_refl _)⟩) (.inr ⟨_, _, rfl, R7.cs (Nat.le_refl _)⟩)).mono ?_
      rintro e w8 ⟨rfl, hb⟩
      replace B := B.trans (hb.mono B.size)
      replace X0 := RowF.below' hb X0
      replace X1 := RowF.below' hb X1
      replace R7 := RowF.below' hb R7
      clear hb
      clear R7 X0
      go_wp2_with fail
      refine (toReadingS_any a' m c' R _ hm' (HB.out.below B)).mono ?_
      rintro e w9 ⟨rfl, R9, hb⟩
      replace B := B.trans (hb.mono B.size)
      replace X1 := RowF.below' hb X1
      clear hb
      go_wp2_with fail
      refine (eqReadingS_src _ _ _ _ _ R _ hm (.inr ⟨_, _, rfl, X1.cs (Nat.le_refl _)⟩) (.inr ⟨_, _, rfl, R9.cs (Nat.le_refl _)⟩)).mono ?_
      rintro e w10 ⟨rfl, hb⟩
      replace B := B.trans (hb.mono B.size)
      replace X1 := RowF.below' hb X1
      replace R9 := RowF.below' hb R9
      clear hb
      go_wp2_with fail
      go_ret
      exact ⟨rfl, B⟩
    · have HM : Hid ((if (m : Int) ≤ 1048576 - (n : Int) then 1048576 - (n : Int) - (m : Int) else -1) = -1) := by rw [Hid, if_neg hbig2]
      clear CS CI
      go_enter Try.func9, Try.ntmps9
      go_wp2_with fail
      refine (szLookS_any a n c _ _ hn (by omega) (by omega)).mono ?_
      rintro e w' ⟨rfl, rfl⟩
      rw [HN.out]
      go_wp2_with fail
      refine (szReadingS_any a' m c' _ _ hm (by omega) (by omega)).mono ?_
      rintro e w' ⟨rfl, rfl⟩
      rw [HM.out]
      go_wp2_with fail
      go_ret
      exact ⟨rfl, B⟩
  · have HN : Hid ((if (n : Int) ≤ 1048576 then 1048576 - (n : Int) else -1) = -1) := by rw [Hid, if_neg hbig]
    clear CS CI
    go_enter Try.func9, Try.ntmps9
    go_wp2_with fail
    refine (szLookS_any a n c _ _ hn (by omega) (by omega)).mono ?_
    rintro e w' ⟨rfl, rfl⟩
    rw [HN.out]
    go_wp2_with fail
    go_ret
    exact ⟨rfl, B⟩
end Go.Proofs.Ytdllkfllnljaaaa
