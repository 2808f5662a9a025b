/- The walk of the exact law of GetNum. -/
import Derived.Test.YtjhebiehkhbljaaG6b
import Derived.Test.YtjhebiehkhbljaaG4
import Derived.WalkKit
import Derived.WalkSpells
import Derived.WalkLawsBesides
import Derived.Deep.RegionHeld
namespace Go.Proofs.Ytjhebiehkhbljaa
open Go.RowKit
set_option linter.unusedVariables false
set_option maxHeartbeats 4000000 in
theorem lawGetNum (a : Option Addr) (n c : Nat) (f : Nat → Int) (x : Int) (w : World) (hm : n ≤ maxLen) (hsrc : SrcB w a n f) (hr : ∀ i, i < n → 0 ≤ f i ∧ f i ≤ 255) (wx : (Lit.int .i64 x).wf = true) :
    Calls Try.prog 5 #[.slice a n c, .int .i64 x] w fun e w' => e = .returned (.bool true) ∧ Below w.heap.size w w' := by
  clear wx
  by_cases hbig : 1048576 < (n : Int)
  · have hm' : n ≤ 9223372036854775807 := hm
    clear hsrc hr hm
    go_enter Try.func5, Try.ntmps5
    go_wp2_with fail
    go_ret
    exact ⟨rfl, Below.refl _ _⟩
  · have hn : n ≤ 1048576 := by omega
    have HS : Hid (SrcB w a n f) := hsrc
    have CS := fun (w' : World) (a' : Option Addr) (h : SrcB w' a' n f) => specGetNum_any a' n n x f w' hm h hr
    have CI := fun (w' : World) (a' : Option Addr) (h : SrcB w' a' n f) => implGetNum_any a' n n x f w' hm (Nat.le_refl _) h hr
    generalize (getI f n x).1 = r1 at *
    generalize (getI f n x).2.1 = r2 at *
    generalize (getI f n x).2.2 = r3 at *
    clear hsrc hr
    go_enter Try.func5, Try.ntmps5
    go_wp2_with fail
    refine (toByteS_any a n c f _ hn HS.out).mono ?_
    rintro e w1 ⟨rfl, R1, B1⟩
    have L1 : Hid (SrcB w1 (some ⟨w.heap.size, 0, none⟩) n f) := .inr ⟨_, _, rfl, R1.byts (Nat.le_refl _)⟩
    clear R1
    go_wp2_with fail
    refine (CS _ _ L1.out).mono ?_
    rintro e w' ⟨rfl, rfl⟩
    clear L1 CS
    go_wp2_with fail
    refine (toByteS_any a n c f _ hn (HS.out.below B1)).mono ?_
    rintro e w2 ⟨rfl, R2, hb⟩
    have B2 := B1.trans (hb.mono B1.size)
    have L2 : Hid (SrcB w2 (some ⟨w1.heap.size, 0, none⟩) n f) := .inr ⟨_, _, rfl, R2.byts (Nat.le_refl _)⟩
    clear R2 hb B1
    go_wp2_with fail
    refine (CI _ _ L2.out).mono ?_
    rintro e w' ⟨rfl, rfl⟩
    clear CI
    go_wp2_with fail
    refine (toByteS_any a n c f _ hn (HS.out.below B2)).mono ?_
    rintro e w3 ⟨rfl, R3, hb⟩
    have B3 := B2.trans (hb.mono B2.size)
    have L3 : Hid (SrcB w3 (some ⟨w2.heap.size, 0, none⟩) n f) := .inr ⟨_, _, rfl, R3.byts (Nat.le_refl _)⟩
    have K3 : Hid (SrcB w3 (some ⟨w1.heap.size, 0, none⟩) n f) := L2.out.below hb
    clear R3 hb B2 L2
    go_wp2_with fail
    refine (eqByteS_src _ _ n n n f _ hm K3.out L3.out).mono ?_
    rintro e w4 ⟨rfl, hb⟩
    have B4 := B3.trans (hb.mono B3.size)
    clear hb B3 L3 K3
    go_wp2_with fail
    go_ret
    exact ⟨rfl, B4⟩
end Go.Proofs.Ytjhebiehkhbljaa
