/- The walk of the exact law of ScriptText. -/
import Derived.Test.YtddjiamollfplaaDoorX230
import Derived.Test.YtddjiamollfplaaDoorX229
import Derived.Test.YtddjiamollfplaaDoorX228
import Derived.Deep.OwnRows
import Derived.Deep.RegionHeld3
import Derived.WalkKit
import Derived.WalkSpells
import Derived.WalkLawsBesides
import Derived.Deep.RegionHeld
namespace Go.Proofs.YtddjiamollfplaaDoor
open Go.RowKit
set_option linter.unusedVariables false

set_option maxRecDepth 100000 in
set_option maxHeartbeats 8000000 in
theorem lawScriptText (a : Option Addr) (n c : Nat) (XM : Nat → OpD) (w : World) (E : T10 w ∧ OpW w) (hm : n ≤ maxLen) (h : RwP OdW w a n XM) :
    Calls Tryd.prog 8 #[.slice a n c] w fun e w' => e = .returned (.bool true) ∧ Below w.heap.size w w' := by
  have HR : Hid (RwP OdW w a n XM) := h
  have HE : Hid (T10 w ∧ OpW w) := E
  clear E h
  have CS := fun (w' : World) (p' : Option Addr) (c' : Nat) (hh : RwP OdS w' p' n XM) => specScript_any p' n c' XM w' hm hh
  have CI := fun (w' : World) (hv : Below w.heap.size w w') (p' : Option Addr) (c' : Nat) (hh : RwP OdS w' p' n XM) => implScript_any p' n c' XM w' ⟨HE.out.1.below hv, HE.out.2.below hv⟩ hm hh
  generalize scO XM n = Y0 at *
  generalize scB XM n = X0 at *
  have hq0 : (X0 != X0) = false := by simp
  go_enter Tryd.func8, Tryd.ntmps8
  go_wp2_with fail
  refine (szOpN_any a n c XM 1048576 (by omega) _ hm HR.out).mono ?_
  rintro e v1 ⟨Lf, rfl, hLf, B⟩
  by_cases hneg : Lf < 0
  · go_wp2_with fail
    go_ret
    exact ⟨rfl, B⟩
  obtain ⟨_, hn, hsh⟩ := hLf (by omega)
  have HS : Hid (∀ i, i < n → shO (XM i)) := hsh
  clear hLf hsh
  go_wp2_with fail
  refine (toOpN_any a n c XM _ hn (HR.out.belowW B) HS.out).mono ?_
  rintro e v2 ⟨rfl, R2, hb⟩
  replace B := B.trans (hb.mono B.size)
  replace R2 := R2.row
  generalize v1.heap.size = g2 at *
  clear hb
  go_wp2_with fail
  refine (CS _ _ _ R2).mono ?_
  rintro e v3 ⟨rfl, hb⟩
  replace B := B.trans (hb.mono B.size)
  clear hb R2 CS
  go_wp2_with fail
  refine (toOpN_any a n c XM _ hn (HR.out.belowW B) HS.out).mono ?_
  rintro e v4 ⟨rfl, R4, hb⟩
  replace B := B.trans (hb.mono B.size)
  replace R4 := R4.row
  generalize v3.heap.size = g4 at *
  clear hb
  go_wp2_with fail
  refine (CI _ B _ _ R4).mono ?_
  rintro e v5 ⟨rfl, hb⟩
  replace B := B.trans (hb.mono B.size)
  replace R4 := R4.belowS hb
  clear hb CI
  go_wp2_with fail
  refine (toOpN_any a n c XM _ hn (HR.out.belowW B) HS.out).mono ?_
  rintro e v6 ⟨rfl, R6, hb⟩
  replace B := B.trans (hb.mono B.size)
  replace R4 := R4.belowS hb
  replace R6 := R6.row
  generalize v5.heap.size = g6 at *
  clear hb
  go_wp2_with fail
  refine (eqOpN_any _ _ n _ _ XM _ hm R4.weak R6.weak).mono ?_
  rintro e v7 ⟨rfl, hb⟩
  replace B := B.trans (hb.mono B.size)
  go_wp2_with fail
  go_ret
  exact ⟨rfl, B⟩

end Go.Proofs.YtddjiamollfplaaDoor
