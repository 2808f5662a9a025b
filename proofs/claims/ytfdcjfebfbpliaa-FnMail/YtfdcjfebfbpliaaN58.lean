/- The contract of impl.NetOk, and the walk of the exact law of NetOk. -/
import Derived.Test.YtfdcjfebfbpliaaN57
import Derived.Deep.RegionHeld3
import Derived.Deep.DeepCutAuto
import Derived.WalkKit
import Derived.WalkSpells
import Derived.WalkLawsBesides
import Derived.Deep.RegionHeld
namespace Go.Proofs.Ytfdcjfebfbpliaa
open Go.RowKit
set_option linter.unusedVariables false
set_option maxHeartbeats 2000000 in
theorem implNetOk_any (nx : Int) (a : Option Addr) (n c : Nat) (M : Nat → FT) (w : World) (hm : n ≤ maxLen) (hf : SrcC w a (n * 5) (MFFlight M)) (hs : ∀ i, i < n → ((M i).2.2.2.1).size ≤ maxLen) (hw : ∀ i, i < n → (Lit.int .i64 (M i).1).wf = true) :
    Calls Try.prog 17 #[.agg #[.int .i64 nx, .slice a n c]] w fun e w' => e = .returned (.bool (netB nx M n)) ∧ Below w.heap.size w w' := by
  have A0 := Below.nw w (.cells #[.int .i64 nx, .slice a n c] 26)
  have C := mailOf_any nx a n c M _ hm (hf.below A0) hs hw
  clear hf hs hw
  go_enter Try.func17, Try.ntmps17
  go_wp2_with fail
  refine C.mono ?_
  rintro e w1 ⟨V, rfl, h0, h1, hb⟩
  have B := A0.trans (hb.mono A0.size)
  clear C hb A0
  cases hB : netB nx M n
  · have hV := h0 hB
    subst hV
    clear h0 h1
    unfold zml
    go_wp2_with fail
    go_ret
    exact ⟨ret_bool hB.symm, B.alloc B.size _⟩
  · obtain ⟨bm, br, rfl, -⟩ := h1 hB
    clear h0 h1
    go_wp2_with fail
    go_ret
    exact ⟨ret_bool hB.symm, B.alloc B.size _⟩
end Go.Proofs.Ytfdcjfebfbpliaa
