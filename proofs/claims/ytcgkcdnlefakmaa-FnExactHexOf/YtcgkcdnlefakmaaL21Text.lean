/- The walks of the exact laws of TextOf, NumOf, HexOf, FromHex. -/
import Derived.Test.YtcgkcdnlefakmaaX213
import Derived.Deep.RegionHeld3
import Derived.WalkKit
import Derived.WalkSpells
import Derived.WalkLawsBesides
import Derived.Deep.RegionHeld
namespace Go.Proofs.Ytcgkcdnlefakmaa
open Go.RowKit
set_option linter.unusedVariables false
set_option maxHeartbeats 4000000 in
theorem lawHexOf (s : ByteArray) (w : World) (hm : s.size ≤ maxLen)
    (CI : ∀ w' : World, Calls Try.prog 6 #[.string s] w' fun e w2 => e = .returned (.string (hexO s)) ∧ Below w'.heap.size w' w2) :
    Calls Try.prog 3 #[.string s] w fun x w' => x = .returned (.bool true) ∧ Below w.heap.size w w' := by
  have CS := fun w' => specHexOf_any s w' hm
  generalize hexO s = V at CS CI
  by_cases hl : (1048576 : Int) < s.size
  · clear CS CI
    go_enter Try.func3, Try.ntmps3
    go_wp2_with fail
    go_ret
    exact ⟨rfl, Below.refl _ _⟩
  go_enter Try.func3, Try.ntmps3
  go_wp2_with fail
  refine (CS _).mono ?_
  rintro x w1 ⟨rfl, B1⟩
  go_wp2_with fail
  refine (CI _).mono ?_
  rintro x w2 ⟨rfl, B2⟩
  go_wp2_with fail
  go_ret
  exact ⟨rfl, B1.trans (B2.mono B1.size)⟩
set_option maxHeartbeats 4000000 in
theorem lawFromHex (s : ByteArray) (w : World) (hm : s.size ≤ maxLen)
    (CI : ∀ w' : World, Calls Try.prog 8 #[.string s] w' fun e w2 => e = .returned (.tuple #[.string (fhO s), .bool (fhB s)]) ∧ Below w'.heap.size w' w2) :
    Calls Try.prog 4 #[.string s] w fun x w' => x = .returned (.bool true) ∧ Below w.heap.size w w' := by
  have CS := fun w' => specFromHex_any s w' hm
  generalize fhO s = V at CS CI
  generalize fhB s = b at CS CI
  by_cases hl : (1048576 : Int) < s.size
  · clear CS CI
    go_enter Try.func4, Try.ntmps4
    go_wp2_with fail
    go_ret
    exact ⟨rfl, Below.refl _ _⟩
  go_enter Try.func4, Try.ntmps4
  go_wp2_with fail
  refine (CS _).mono ?_
  rintro x w1 ⟨rfl, B1⟩
  go_wp2_with fail
  refine (CI _).mono ?_
  rintro x w2 ⟨rfl, B2⟩
  go_wp2_with fail
  go_ret
  exact ⟨rfl, B1.trans (B2.mono B1.size)⟩
end Go.Proofs.Ytcgkcdnlefakmaa
