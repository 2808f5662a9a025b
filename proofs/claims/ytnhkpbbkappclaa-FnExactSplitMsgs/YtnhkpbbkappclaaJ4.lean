/- The walk of the exact law of JoinMsgs. -/
import Derived.Test.YtnhkpbbkappclaaJ3
import Derived.WalkKit
import Derived.WalkSpells
import Derived.WalkLawsBesides
import Derived.Deep.RegionHeld
namespace Go.Proofs.Ytnhkpbbkappclaa
open Go.RowKit
set_option linter.unusedVariables false
theorem jR_len (M : Nat → MT) (n : Nat) : (jR M n).length ≤ 4400 := by
  cases h : jB M n
  · rw [jR_no h]; simp
  · rw [jR_ok h]
    simp only [jB, Bool.and_eq_true, decide_eq_true_eq] at h
    have := jn_len h.2
    omega
theorem But.grown' {p : Nat} {w w' : World} (h : But p w w') : w.grownBy w' (some p) := ⟨h.1, h.2.1, h.2.2.1, h.2.2.2.1, fun k hk hp => h.2.2.2.2 k hk (fun e => hp (by rw [e]))⟩
theorem own_butNe {w w' : World} {base p : Nat} {e : TypeId} {size : Nat} {v : Value} {n : Nat} {xs : List Value} (h : w.ownsRow base e size v n xs) (hb : But p w w') (hp : ∀ g, v.ownBlock = some g → g ≠ p) : w'.ownsRow base e size v n xs :=
  h.kept hb.grown' (by
    cases hv : v.ownBlock with
    | none => exact .inl rfl
    | some g => exact .inr (fun he => hp g hv (by simpa using he)))
theorem ownB_belowB' {w w' : World} {B base : Nat} {e : TypeId} {size : Nat} {v : Value} {n : Nat} {xs : List Value} (h : w.ownsRow base e size v n xs) (hb : Below B w w') (hlt : ∀ g, v.ownBlock = some g → g < B) : w'.ownsRow base e size v n xs := by
  refine ⟨h.1, ?_⟩
  rcases h.2 with h | ⟨g, cap, cur, rfl, h2, h3, h4⟩
  · exact .inl h
  · exact .inr ⟨g, cap, cur, rfl, h2, (hb.block g (hlt g rfl)).trans h3, h4⟩
set_option maxHeartbeats 8000000 in
theorem lawJoinMsgs (a : Option Addr) (n c : Nat) (M : Nat → MT) (w : World) (hm : n ≤ maxLen) (hsrc : SrcC w a (n * 8) (MFMsg M)) (hs : ∀ i, i < n → ((M i).2.2.2.2.2.2.2).size ≤ maxLen) :
    Calls Try.prog 5 #[.slice a n c] w fun e w' => e = .returned (.bool true) ∧ Below w.heap.size w w' := by
  have HA : Hid (SrcC w a (n * 8) (MFMsg M)) := hsrc
  go_enter Try.func5, Try.ntmps5
  go_wp2_with fail
  refine (szMsgS_any a n c M _ hm hsrc hs).mono ?_
  rintro e w0 ⟨L, rfl, hL, B0⟩
  clear hsrc hs
  by_cases hneg : L < 0
  · clear hL
    go_wp2_with fail
    go_ret
    exact ⟨rfl, B0⟩
  obtain ⟨hn, hs'⟩ := hL (by omega)
  clear hL
  have CS := fun (w' : World) (a' : Option Addr) (h : SrcC w' a' (n * 8) (MFMsg M)) => specJoinMsgs_any a' n n M w' hm h hs'
  have CI := fun (w' : World) (a' : Option Addr) (h : SrcC w' a' (n * 8) (MFMsg M)) => implJoinMsgs_any a' n n M w' hm h hs'
  have hRl := jR_len M n
  clear hs'
  generalize jB M n = jb at *
  generalize jR M n = R at *
  have hLm : R.length ≤ maxLen := by unfold maxLen; omega
  have hLn : R.length ≤ 1048576 := by omega
  go_wp2_with fail
  refine (toMsgS_any a n c M _ hn (HA.out.below B0)).mono ?_
  rintro e w1 ⟨rfl, R1, hb⟩
  have B1 := B0.trans (hb.mono B0.size)
  have L1 : Hid (SrcC w1 (some ⟨w0.heap.size, 0, none⟩) (n * 8) (MFMsg M)) := .inr ⟨_, _, rfl, R1.cs (Nat.le_refl _)⟩
  clear hb B0 R1
  go_wp2_with fail
  refine (CS _ _ L1.out).mono ?_
  rintro e w2 ⟨vs, rfl, V2, hb⟩
  have B2 := B1.trans (hb.mono B1.size)
  have Vl : ∀ g, vs.ownBlock = some g → g < w2.heap.size := fun g hg => (V2.lt g hg).2
  clear hb B1 L1 CS
  go_wp2_with fail
  refine (toMsgS_any a n c M _ hn (HA.out.below B2)).mono ?_
  rintro e w3 ⟨rfl, R3, hb⟩
  have B3 := B2.trans (hb.mono B2.size)
  have V3 := ownB_below V2 hb
  have s23 : w2.heap.size < w3.heap.size := R3.lt
  clear hb V2
  go_wp2_with fail
  refine (CI _ _ (.inr ⟨_, _, rfl, R3.cs (Nat.le_refl _)⟩)).mono ?_
  rintro e w4 ⟨vg, rfl, G4, hb⟩
  have B4 := B3.trans (hb.mono B3.size)
  have V4 := ownB_below V3 hb
  have R4 := RowF.below' hb R3
  have Gl : ∀ g, vg.ownBlock = some g → w3.heap.size ≤ g := fun g hg => (G4.lt g hg).1
  have s34 : w3.heap.size ≤ w4.heap.size := hb.size
  have s02 : w.heap.size ≤ w2.heap.size := B2.size
  clear hb B3 V3 R3 B2
  obtain ⟨az, cz, rfl, hsc, hsm, SS4⟩ := ownB_src V4
  obtain ⟨ag, cg, rfl, hgc, hgm, SG4⟩ := ownB_src G4
  have HS4 : Hid (SrcB w4 az R.length fun i => R.getD i 0) := SS4
  have HG4 : Hid (SrcB w4 ag R.length fun i => R.getD i 0) := SG4
  clear SS4 SG4 hsc hsm hgc hgm
  go_wp2_with fail
  refine (eqByteS_src _ _ _ _ _ _ _ hLm HG4.out HS4.out).mono ?_
  rintro e w5 ⟨rfl, hb⟩
  have B5 := B4.trans (hb.mono B4.size)
  have V5 := ownB_below V4 hb
  have G5 := ownB_below G4 hb
  have R5 := RowF.below' hb R4
  have s45 : w4.heap.size ≤ w5.heap.size := hb.size
  clear hb B4 V4 G4 R4 HS4 HG4
  go_wp2_with fail
  refine (toMsgS_any a n c M _ hn (HA.out.below B5)).mono ?_
  rintro e w6 ⟨rfl, R6, hb⟩
  have B6 := B5.trans (hb.mono B5.size)
  have V6 := ownB_below V5 hb
  have G6 := ownB_below G5 hb
  have X6 := RowF.below' hb R5
  have s56 : w5.heap.size ≤ w6.heap.size := hb.size
  clear hb B5 V5 G5 R5
  have HX6 : Hid (SrcC w6 (some ⟨w2.heap.size, 0, none⟩) (n * 8) (MFMsg M)) := .inr ⟨_, _, rfl, X6.cs (Nat.le_refl _)⟩
  have HR6 : Hid (SrcC w6 (some ⟨w5.heap.size, 0, none⟩) (n * 8) (MFMsg M)) := .inr ⟨_, _, rfl, R6.cs (Nat.le_refl _)⟩
  clear R6
  go_wp2_with fail
  refine (eqMsgS_src _ _ n n n M _ hm HX6.out HR6.out).mono ?_
  rintro e w7 ⟨rfl, hb⟩
  have B7 := B6.trans (hb.mono B6.size)
  have V7 := ownB_below V6 hb
  have G7 := ownB_below G6 hb
  have X7 := RowF.below' hb X6
  have s67 : w6.heap.size ≤ w7.heap.size := hb.size
  clear hb B6 V6 G6 X6 HX6 HR6
  go_wp2_with fail
  refine (markMsgS_row w2.heap.size (n * 8) n n _ hn (Nat.le_refl _) (X7.zero _)).mono ?_
  rintro e w8 ⟨rfl, X8, hb⟩
  have B8 := B7.trans (hb.below s02 B7.size)
  have V8 := own_butNe V7 hb (fun g hg => by have := Vl g hg; omega)
  have G8 := own_butNe G7 hb (fun g hg => by have := Gl g hg; omega)
  have s78 : w7.heap.size ≤ w8.heap.size := hb.2.2.2.1
  clear hb B7 V7 G7 X7 X8
  obtain ⟨az', cz', he, hsc, hsm, SS8⟩ := ownB_src V8
  simp at he
  obtain ⟨rfl, rfl⟩ := he
  obtain ⟨ag', cg', he, hgc, hgm, SG8⟩ := ownB_src G8
  simp at he
  obtain ⟨rfl, rfl⟩ := he
  have HS8 : Hid (SrcB w8 az R.length fun i => R.getD i 0) := SS8
  have HG8 : Hid (SrcB w8 ag R.length fun i => R.getD i 0) := SG8
  have hk1 : ¬ (1 + (n : Int) * 8 < 0) := by omega
  clear SS8 SG8 hsc hsm hgc hgm
  go_wp2_with fail
  refine (eqByteS_src _ _ _ _ _ _ _ hLm HG8.out HS8.out).mono ?_
  rintro e w9 ⟨rfl, hb⟩
  have B9 := B8.trans (hb.mono B8.size)
  have V9 := ownB_below V8 hb
  have G9 := ownB_below G8 hb
  have s89 : w8.heap.size ≤ w9.heap.size := hb.size
  clear hb B8 V8 G8 HS8 HG8
  go_wp2_with fail
  refine (markByteS_any ag R.length cg w3.heap.size _ _ hLn (by omega) G9).mono ?_
  rintro e w10 ⟨rfl, hg, hb⟩
  have B10 := B9.trans (hb.mono (by omega))
  have V10 := ownB_belowB' V9 hb (fun g hg => by have := Vl g hg; omega)
  have HM10 : Hid (SrcB w10 ag R.length fmb) := hg
  clear hb B9 V9 G9 hg
  go_wp2_with fail
  refine (heldByteS_any ag R.length cg _ hLn HM10.out).mono ?_
  rintro e w' ⟨rfl, rfl⟩
  go_wp2_with fail
  refine (toMsgS_any a n c M _ hn (HA.out.below B10)).mono ?_
  rintro e w11 ⟨rfl, R11, hb⟩
  have B11 := B10.trans (hb.mono B10.size)
  have V11 := ownB_below V10 hb
  have HM11 : Hid (SrcB w11 ag R.length fmb) := HM10.out.below hb
  have L11 : Hid (SrcC w11 (some ⟨w10.heap.size, 0, none⟩) (n * 8) (MFMsg M)) := .inr ⟨_, _, rfl, R11.cs (Nat.le_refl _)⟩
  clear hb B10 V10 HM10 R11
  go_wp2_with fail
  refine (CI _ _ L11.out).mono ?_
  rintro e w12 ⟨vh, rfl, H12, hb⟩
  have B12 := B11.trans (hb.mono B11.size)
  have V12 := ownB_below V11 hb
  have HM12 : Hid (SrcB w12 ag R.length fmb) := HM11.out.below hb
  clear hb B11 V11 HM11 L11 CI
  obtain ⟨ah, ch, rfl, hhc, hhm, SH12⟩ := ownB_src H12
  obtain ⟨az', cz', he, hsc, hsm, SS12⟩ := ownB_src V12
  simp at he
  obtain ⟨rfl, rfl⟩ := he
  have HH12 : Hid (SrcB w12 ah R.length fun i => R.getD i 0) := SH12
  have HS12 : Hid (SrcB w12 az R.length fun i => R.getD i 0) := SS12
  clear hhc hhm SH12 hsc hsm SS12 H12 V12
  go_wp2_with fail
  refine (eqByteS_src _ _ _ _ _ _ _ hLm HH12.out HS12.out).mono ?_
  rintro e w13 ⟨rfl, hb⟩
  have B13 := B12.trans (hb.mono B12.size)
  have HM13 : Hid (SrcB w13 ag R.length fmb) := HM12.out.below hb
  clear hb B12 HS12 HH12 HM12
  go_wp2_with fail
  refine (heldByteS_any ag R.length cg _ hLn HM13.out).mono ?_
  rintro e w' ⟨rfl, rfl⟩
  go_wp2_with fail
  go_ret
  exact ⟨rfl, B13⟩
end Go.Proofs.Ytnhkpbbkappclaa
