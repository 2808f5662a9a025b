/- The walk of the exact law of HeardOk. -/
import Derived.Test.YtdahabbdhjgpdaaS164
import Derived.Test.YtdahabbdhjgpdaaS165
import Derived.Test.YtdahabbdhjgpdaaS166
import Derived.Test.YtdahabbdhjgpdaaS167
import Derived.Test.YtdahabbdhjgpdaaS168
import Derived.Test.YtdahabbdhjgpdaaS169
import Derived.Test.YtdahabbdhjgpdaaS170
import Derived.Test.YtdahabbdhjgpdaaI106
import Derived.Test.YtdahabbdhjgpdaaG10
import Derived.Deep.RegionHeld3
import Derived.Deep.DeepCutAuto
import Derived.WalkKit
import Derived.WalkSpells
import Derived.WalkLawsBesides
import Derived.Deep.RegionHeld
namespace Go.Proofs.Ytdahabbdhjgpdaa
open Go.RowKit
set_option linter.unusedVariables false
set_option maxRecDepth 100000 in
set_option maxHeartbeats 16000000 in
theorem lawHeardOk (a : Option Addr) (n c : Nat) (M : Nat → VT) (w : World) (hm : n ≤ maxLen) (hsrc : SrcC w a (n * 2) (MFIval M)) (hwf : ∀ i, i < n → (Lit.int .i64 (M i).1).wf = true) :
    Calls Try.prog 3 #[.slice a n c] w fun e w' => e = .returned (.bool true) ∧ Below w.heap.size w w' := by
  have HA : Hid (SrcC w a (n * 2) (MFIval M)) := hsrc
  have CS := fun (w' : World) (a' : Option Addr) (h : SrcC w' a' (n * 2) (MFIval M)) => specHeardOk_any a' n n M w' hm h
  have CI := fun (w' : World) (a' : Option Addr) (h : SrcC w' a' (n * 2) (MFIval M)) => implHeardOk_any a' n n M w' hm h
  clear hsrc hwf
  generalize hrB M n = V at *
  have hvv : (V != V) = false := by simp
  have B := Below.refl w.heap.size w
  go_enter Try.func3, Try.ntmps3
  go_wp2_with fail
  refine (szHeardS_le a n c 1048576 _ hm (by decide) (by decide)).mono ?_
  rintro e w1 ⟨Z, rfl, hZ, hb⟩
  replace B := B.trans (hb.mono B.size)
  clear hb
  by_cases hz0 : Z < 0
  · clear CS CI
    go_wp2_with fail
    go_ret
    exact ⟨rfl, B⟩
  have hn : n ≤ 1048576 := (hZ (by omega)).1
  clear hZ
  go_wp2_with fail
  refine (toHeardS_any a n c M _ hn (HA.out.below B)).mono ?_
  rintro e w2 ⟨rfl, R2, hb⟩
  replace B := B.trans (hb.mono B.size)
  clear hb
  go_wp2_with fail
  refine (CS _ _ (.inr ⟨_, _, rfl, R2.cs (Nat.le_refl _)⟩)).mono ?_
  rintro e w3 ⟨rfl, hb⟩
  replace B := B.trans (hb.mono B.size)
  clear hb R2
  go_wp2_with fail
  refine (toHeardS_any a n c M _ hn (HA.out.below B)).mono ?_
  rintro e w4 ⟨rfl, RX, hb⟩
  replace B := B.trans (hb.mono B.size)
  clear hb
  generalize hj3 : w3.heap.size = j3 at *
  clear hj3
  go_wp2_with fail
  refine (CI _ _ (.inr ⟨_, _, rfl, RX.cs (Nat.le_refl _)⟩)).mono ?_
  rintro e w5 ⟨rfl, hb⟩
  replace B := B.trans (hb.mono B.size)
  replace RX := RowF.below' hb RX
  clear hb CS CI
  go_wp2_with fail
  refine (toHeardS_any a n c M _ hn (HA.out.below B)).mono ?_
  rintro e w9 ⟨rfl, R9, hb⟩
  replace B := B.trans (hb.mono B.size)
  replace RX := RowF.below' hb RX
  clear hb
  go_wp2_with fail
  refine (eqHeardS_src _ _ _ _ _ M _ hm (.inr ⟨_, _, rfl, RX.cs (Nat.le_refl _)⟩) (.inr ⟨_, _, rfl, R9.cs (Nat.le_refl _)⟩)).mono ?_
  rintro e w9b ⟨rfl, hb⟩
  replace B := B.trans (hb.mono B.size)
  clear hb R9 RX
  go_wp2_with fail
  go_ret
  exact ⟨rfl, B⟩
end Go.Proofs.Ytdahabbdhjgpdaa
