/- What the draws of chapter 2 leave: a drift, a count. -/
import Derived.Test.YteifibajafdnlaaD3
import Derived.WalkKit
import Derived.WalkSpells
import Derived.WalkLawsBesides
import Derived.Deep.QuietTactic
import Derived.BigQuiet
namespace Go.Proofs.Yteifibajafdnlaa
open Go.RowKit
set_option linter.unusedVariables false
set_option maxHeartbeats 1000000 in
theorem l2DrawCount_any (B p : Nat) (w : World) (hcur : CurOk w B p) :
    Calls Try.prog 51 #[.pointer (some ⟨p, 0, none⟩)] w fun e w' => ∃ v : Int, e = .returned (.int .i64 v) ∧ CurOk w' B p ∧ But p w w' := by
  go_enter Try.func51, Try.ntmps51
  go_wp2_with fail
  refine (l1Below_any B p 14 _ hcur).mono ?_; rintro e w1 ⟨x, rfl, xl, xh, xp, xz, w1c, w1b⟩
  clear xp xz
  cases hx0 : (x == 0)
  · cases hx1 : (x == 1)
    · cases hx2 : (x == 2)
      · go_wp2_with fail
        refine (l1Below_any B p 5000 _ w1c).mono ?_; rintro e w2 ⟨y, rfl, yl, yh, yp, yz, w2c, w2b⟩
        clear yp yz
        go_wp2_with fail
        go_ret
        exact ⟨_, rfl, w2c, w1b.trans w2b⟩
      · go_wp2_with fail
        refine (l1Below_any B p 6 _ w1c).mono ?_; rintro e w2 ⟨y, rfl, yl, yh, yp, yz, w2c, w2b⟩
        clear yp yz
        go_wp2_with fail
        go_ret
        exact ⟨_, rfl, w2c, w1b.trans w2b⟩
    · go_wp2_with fail
      refine (l1Below_any B p 1000000000 _ w1c).mono ?_; rintro e w2 ⟨y, rfl, yl, yh, yp, yz, w2c, w2b⟩
      clear yp yz
      go_wp2_with fail
      go_ret
      exact ⟨_, rfl, w2c, w1b.trans w2b⟩
  · go_wp2_with fail
    have hp := pickLit B p w1 [-1, 0, 1000000000000, 1000000000001, 500000000000, 666666666666, 9223372036854775807] w1c (by decide) (by decide); simp only [List.map_cons, List.map_nil, List.length_cons, List.length_nil, Nat.zero_add, Nat.reduceAdd] at hp; refine hp.mono ?_; clear hp; rintro e w3 ⟨v, rfl, w3c, w3b⟩
    go_wp2_with fail
    go_ret
    exact ⟨_, rfl, w3c, w1b.trans w3b⟩
set_option maxHeartbeats 400000 in
theorem big_any (a : Option Addr) (n c : Nat) (w : World) :
    Calls Try.prog 11 #[.slice a n c] w fun e w' => e = .returned (.bool (decide (1048576 < (n : Int)))) ∧ w = w' := by
  go_enter Try.func11, Try.ntmps11
  go_wp2
  go_ret
  exact ⟨rfl, rfl⟩
end Go.Proofs.Yteifibajafdnlaa
