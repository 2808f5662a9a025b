/- The walk of the exact law of SplitMsgs. -/
import Derived.Test.YtnhkpbbkappclaaJ7
import Derived.WalkKit
import Derived.WalkSpells
import Derived.WalkLawsBesides
import Derived.Deep.RegionHeld
namespace Go.Proofs.Ytnhkpbbkappclaa
open Go.RowKit
set_option linter.unusedVariables false
theorem spl_len (f : Nat → Int) (n : Nat) : ∀ r x, (spl f n r x).1.length ≤ r
  | 0, x => by simp [spl]
  | r + 1, x => by
    unfold spl
    split
    · simp
    · split
      · simp
      · split
        · simp
        · split
          · simp
          · have := spl_len f n r ((getI f n x).2.1.toNat + (getI f n x).1.toNat)
            simp
            exact this
theorem own_grown {w w' : World} {base b : Nat} {e : TypeId} {size : Nat} {v : Value} {n : Nat} {xs : List Value} (h : w.ownsRow base e size v n xs) (hg : w.grownBy w' (some b)) (hp : ∀ g, v.ownBlock = some g → g ≠ b) : w'.ownsRow base e size v n xs :=
  h.kept hg (by
    cases hv : v.ownBlock with
    | none => exact .inl rfl
    | some g => exact .inr (fun he => hp g hv (by simpa using he)))
set_option maxHeartbeats 8000000 in
theorem lawSplitMsgs (a : Option Addr) (n c : Nat) (f : Nat → Int) (w : World) (hm : n ≤ maxLen) (hsrc : SrcB w a n f) (hr : ∀ i, i < n → 0 ≤ f i ∧ f i ≤ 255) :
    Calls Try.prog 6 #[.slice a n c] w fun e w' => e = .returned (.bool true) ∧ Below w.heap.size w w' := by
  by_cases hbig : 1048576 < (n : Int)
  · have hm' : n ≤ 9223372036854775807 := hm
    clear hsrc hr hm
    go_enter Try.func6, Try.ntmps6
    go_wp2_with fail
    go_ret
    exact ⟨rfl, Below.refl _ _⟩
  have hn : n ≤ 1048576 := by omega
  have HA : Hid (SrcB w a n f) := hsrc
  have CS := fun (w' : World) (a' : Option Addr) (h : SrcB w' a' n f) => specSplitMsgs_any a' n n f w' hn (Nat.le_refl _) hm h hr
  have CI := fun (w' : World) (a' : Option Addr) (h : SrcB w' a' n f) => implSplitMsgs_any a' n n f w' hn (Nat.le_refl _) hm h hr
  have hRl := spl_len f n 40 0
  clear hsrc hr
  generalize (spl f n 40 0).1 = R at *
  generalize (spl f n 40 0).2.1 = ax at *
  generalize (spl f n 40 0).2.2 = qx at *
  have hLm : R.length ≤ maxLen := by unfold maxLen; omega
  have hLn : R.length ≤ 1048576 := by omega
  go_enter Try.func6, Try.ntmps6
  go_wp2_with fail
  refine (toByteS_any a n c f _ hn HA.out).mono ?_
  rintro e w1 ⟨rfl, R1, B1⟩
  have L1 : Hid (SrcB w1 (some ⟨w.heap.size, 0, none⟩) n f) := .inr ⟨_, _, rfl, R1.byts (Nat.le_refl _)⟩
  clear R1
  go_wp2_with fail
  refine (CS _ _ L1.out).mono ?_
  rintro e w2 ⟨vs, rfl, V2, hb⟩
  have B2 := B1.trans (hb.mono B1.size)
  have Vl : ∀ g, vs.ownBlock = some g → g < w2.heap.size := fun g hg => (V2.lt g hg).2
  clear hb B1 L1 CS
  go_wp2_with fail
  refine (toByteS_any a n c f _ hn (HA.out.below B2)).mono ?_
  rintro e w3 ⟨rfl, R3, hb⟩
  have B3 := B2.trans (hb.mono B2.size)
  have V3 := ownB_below V2 hb
  have s23 : w2.heap.size < w3.heap.size := R3.lt
  clear hb V2
  go_wp2_with fail
  refine (CI _ _ (.inr ⟨_, _, rfl, R3.byts (Nat.le_refl _)⟩)).mono ?_
  rintro e w4 ⟨vg, rfl, G4, hb⟩
  have B4 := B3.trans (hb.mono B3.size)
  have V4 := ownB_below V3 hb
  have R4 := R3.below hb R3.lt
  have Gl : ∀ g, vg.ownBlock = some g → w3.heap.size ≤ g := fun g hg => (G4.lt g hg).1
  have s34 : w3.heap.size ≤ w4.heap.size := hb.size
  have s02 : w.heap.size ≤ w2.heap.size := B2.size
  clear hb B3 V3 R3 B2
  obtain ⟨az, cz, rfl, hsc, hsm, SS4⟩ := ownM_src V4
  obtain ⟨ag, cg, rfl, hgc, hgm, SG4⟩ := ownM_src G4
  have HS4 : Hid (SrcC w4 az (R.length * 8) (MFMsg fun i => R.getD i zT)) := SS4
  have HG4 : Hid (SrcC w4 ag (R.length * 8) (MFMsg fun i => R.getD i zT)) := SG4
  clear SS4 SG4 hsc hsm hgc hgm
  go_wp2_with fail
  refine (eqMsgS_src _ _ R.length _ _ _ _ hLm HG4.out HS4.out).mono ?_
  rintro e w5 ⟨rfl, hb⟩
  have B5 := B4.trans (hb.mono B4.size)
  have V5 := ownB_below V4 hb
  have G5 := ownB_below G4 hb
  have R5 := R4.below hb R4.lt
  have s45 : w4.heap.size ≤ w5.heap.size := hb.size
  clear hb B4 V4 G4 R4 HS4 HG4
  go_wp2_with fail
  refine (toByteS_any a n c f _ hn (HA.out.below B5)).mono ?_
  rintro e w6 ⟨rfl, R6, hb⟩
  have B6 := B5.trans (hb.mono B5.size)
  have V6 := ownB_below V5 hb
  have G6 := ownB_below G5 hb
  have X6 := R5.below hb R5.lt
  have s56 : w5.heap.size ≤ w6.heap.size := hb.size
  clear hb B5 V5 G5 R5
  have HX6 : Hid (SrcB w6 (some ⟨w2.heap.size, 0, none⟩) n f) := .inr ⟨_, _, rfl, X6.byts (Nat.le_refl _)⟩
  have HR6 : Hid (SrcB w6 (some ⟨w5.heap.size, 0, none⟩) n f) := .inr ⟨_, _, rfl, R6.byts (Nat.le_refl _)⟩
  clear R6
  go_wp2_with fail
  refine (eqByteS_src _ _ n n n f _ hm HX6.out HR6.out).mono ?_
  rintro e w7 ⟨rfl, hb⟩
  have B7 := B6.trans (hb.mono B6.size)
  have V7 := ownB_below V6 hb
  have G7 := ownB_below G6 hb
  have X7 := X6.below hb X6.lt
  have s67 : w6.heap.size ≤ w7.heap.size := hb.size
  clear hb B6 V6 G6 X6 HX6 HR6
  obtain ⟨xg, xr, -⟩ := X7
  go_wp2_with fail
  refine (markByteS_row w2.heap.size n n n _ hn (Nat.le_refl _) ⟨xg, xr, fun j hj => absurd hj (Nat.not_lt_zero _)⟩).mono ?_
  rintro e w8 ⟨rfl, X8, hb⟩
  have B8 := B7.trans (grownB_belowB hb s02 B7.size)
  have V8 := own_grown V7 hb (fun g hg => by have := Vl g hg; omega)
  have G8 := own_grown G7 hb (fun g hg => by have := Gl g hg; omega)
  have s78 : w7.heap.size ≤ w8.heap.size := hb.size
  clear hb B7 V7 G7 xr X8
  obtain ⟨az', cz', he, hsc, hsm, SS8⟩ := ownM_src V8
  simp at he
  obtain ⟨rfl, rfl⟩ := he
  obtain ⟨ag', cg', he, hgc, hgm, SG8⟩ := ownM_src G8
  simp at he
  obtain ⟨rfl, rfl⟩ := he
  have HS8 : Hid (SrcC w8 az (R.length * 8) (MFMsg fun i => R.getD i zT)) := SS8
  have HG8 : Hid (SrcC w8 ag (R.length * 8) (MFMsg fun i => R.getD i zT)) := SG8
  have hk1 : ¬ (1 + (n : Int) < 0) := by omega
  clear SS8 SG8 hsc hsm hgc hgm
  go_wp2_with fail
  refine (eqMsgS_src _ _ R.length _ _ _ _ hLm HG8.out HS8.out).mono ?_
  rintro e w9 ⟨rfl, hb⟩
  have B9 := B8.trans (hb.mono B8.size)
  have V9 := ownB_below V8 hb
  have G9 := ownB_below G8 hb
  have s89 : w8.heap.size ≤ w9.heap.size := hb.size
  clear hb B8 V8 G8 HS8 HG8
  go_wp2_with fail
  refine (markMsgS_any ag R.length cg w3.heap.size _ _ hLn (by omega) G9).mono ?_
  rintro e w10 ⟨rfl, hg, hb⟩
  have B10 := B9.trans (hb.mono (by omega))
  have V10 := ownB_belowB' V9 hb (fun g hg => by have := Vl g hg; omega)
  have HM10 : Hid (SrcC w10 ag (R.length * 8) mkMsg) := hg
  clear hb B9 V9 G9 hg
  go_wp2_with fail
  refine (heldMsgS_any ag R.length cg _ hLn HM10.out).mono ?_
  rintro e w10b ⟨rfl, hb⟩
  replace B10 := B10.trans (hb.mono B10.size)
  replace V10 := ownB_below V10 hb
  have HM10b : Hid (SrcC w10b ag (R.length * 8) mkMsg) := HM10.out.below hb
  clear hb HM10
  have hk2 : ¬ (1 + (R.length : Int) * 8 < 0) := by omega
  go_wp2_with fail
  refine (toByteS_any a n c f _ hn (HA.out.below B10)).mono ?_
  rintro e w11 ⟨rfl, R11, hb⟩
  have B11 := B10.trans (hb.mono B10.size)
  have V11 := ownB_below V10 hb
  have HM11 : Hid (SrcC w11 ag (R.length * 8) mkMsg) := HM10b.out.below hb
  have L11 : Hid (SrcB w11 (some ⟨w10b.heap.size, 0, none⟩) n f) := .inr ⟨_, _, rfl, R11.byts (Nat.le_refl _)⟩
  clear hb B10 V10 HM10b R11
  go_wp2_with fail
  refine (CI _ _ L11.out).mono ?_
  rintro e w12 ⟨vh, rfl, H12, hb⟩
  have B12 := B11.trans (hb.mono B11.size)
  have V12 := ownB_below V11 hb
  have HM12 : Hid (SrcC w12 ag (R.length * 8) mkMsg) := HM11.out.below hb
  clear hb B11 V11 HM11 L11 CI
  obtain ⟨ah, ch, rfl, hhc, hhm, SH12⟩ := ownM_src H12
  obtain ⟨az', cz', he, hsc, hsm, SS12⟩ := ownM_src V12
  simp at he
  obtain ⟨rfl, rfl⟩ := he
  have HH12 : Hid (SrcC w12 ah (R.length * 8) (MFMsg fun i => R.getD i zT)) := SH12
  have HS12 : Hid (SrcC w12 az (R.length * 8) (MFMsg fun i => R.getD i zT)) := SS12
  clear hhc hhm SH12 hsc hsm SS12 H12 V12
  go_wp2_with fail
  refine (eqMsgS_src _ _ R.length _ _ _ _ hLm HH12.out HS12.out).mono ?_
  rintro e w13 ⟨rfl, hb⟩
  have B13 := B12.trans (hb.mono B12.size)
  have HM13 : Hid (SrcC w13 ag (R.length * 8) mkMsg) := HM12.out.below hb
  clear hb B12 HS12 HH12 HM12
  go_wp2_with fail
  refine (heldMsgS_any ag R.length cg _ hLn HM13.out).mono ?_
  rintro e w14 ⟨rfl, hb⟩
  have B14 := B13.trans (hb.mono B13.size)
  go_wp2_with fail
  go_ret
  exact ⟨rfl, B14⟩
end Go.Proofs.Ytnhkpbbkappclaa
