/- The walk of the exact law of FracOf. -/
import Derived.Test.YtjefbjjhdpidiaaDoorF124
import Derived.Test.YtjefbjjhdpidiaaDoorF113
import Derived.Test.YtjefbjjhdpidiaaDoorL110
import Derived.Deep.RegionHeld3
import Derived.Deep.DeepCutAuto
import Derived.WalkKit
import Derived.WalkSpells
import Derived.WalkLawsBesides
import Derived.Deep.RegionHeld
namespace Go.Proofs.YtjefbjjhdpidiaaDoor
open Go.RowKit
set_option linter.unusedVariables false
set_option maxRecDepth 100000 in
set_option maxHeartbeats 16000000 in
theorem lawFracOf (x y : Int) (s : Addr) (w : World) (E : Er w 0 s) (g0' : (Lit.int .i64 x).wf = true) (g1' : (Lit.int .i64 y).wf = true) :
    Calls Tryd.prog 4 #[.int .i64 x, .int .i64 y] w fun e w' => e = .returned (.bool true) ∧ Below w.heap.size w w' := by
  clear g0' g1'
  have B := Below.refl w.heap.size w
  replace E := E.below B
  have CS := fun w' => specFracOf_any x y w'
  have CI := fun w' E' => implFracOf_any x y s w' E'
  generalize foX x y = fx at *
  generalize foY x y = fy at *
  generalize foB x y = ok at *
  go_enter Tryd.func4, Tryd.ntmps4
  go_upto_region 1 with fail
  have v := w
  have SK : Hid (∀ w', Below w.heap.size w w' → (True)) := fun w' hw => trivial
  go_upto_region 1 with fail
  go_cut [5, 6] (fun s5 s6 wx => ∃ ak0 : Nat, s5 = .pointer (some ⟨ak0, 0, none⟩) ∧ s6 = (.bool ok) ∧ Bx2 wx ak0 (.int .i64 fx) (.int .i64 fy) ∧ Below w.heap.size w wx)
  case first => as_aux_lemma =>
    have XB := Below.refl w.heap.size w
    go_wp2_with fail
    refine (CS _).mono ?_
    rintro ee vx ⟨rfl, hbl⟩
    replace XB := XB.trans (hbl.mono XB.size)
    clear hbl
    have Z0 := Below.nw vx (.cells #[.int .i64 fx, .int .i64 fy] 25)
    have K0 := Bx2.new vx (.int .i64 fx) (.int .i64 fy) 25
    replace XB := XB.trans (Z0.mono XB.size)
    go_wp2_with fail
    go_meet
    case rel => exact ⟨_, rfl, rfl, K0, XB⟩
  case rest =>
    obtain ⟨ak0, rfl, rfl, K0, XB⟩ := hcut
    replace E := E.below XB
    replace B := B.trans (XB.mono B.size)
    clear XB SK CS
    generalize wc = v4 at *
    have M0 := K0
    clear K0
    have SK : Hid (∀ w', Below v4.heap.size v4 w' → (True)) := fun w' hw => trivial
    go_upto_region 2 with fail
    go_cut [7, 8] (fun s7 s8 wx => ∃ bk0 : Nat, s7 = .pointer (some ⟨bk0, 0, none⟩) ∧ s8 = (.bool ok) ∧ Bx2 wx bk0 (.int .i64 fx) (.int .i64 fy) ∧ Below v4.heap.size v4 wx)
    case first => as_aux_lemma =>
      have XB := Below.refl v4.heap.size v4
      go_wp2_with fail
      refine (CI _ (E.below XB)).mono ?_
      rintro ee vx ⟨rfl, hbl⟩
      replace XB := XB.trans (hbl.mono XB.size)
      clear hbl
      have Z0 := Below.nw vx (.cells #[.int .i64 fx, .int .i64 fy] 25)
      have K0 := Bx2.new vx (.int .i64 fx) (.int .i64 fy) 25
      replace XB := XB.trans (Z0.mono XB.size)
      go_wp2_with fail
      go_meet
      case rel => exact ⟨_, rfl, rfl, K0, XB⟩
    case rest =>
      obtain ⟨bk0, rfl, rfl, K0, XB⟩ := hcut
      replace M0 := M0.below XB
      replace B := B.trans (XB.mono B.size)
      clear XB SK CI E
      generalize wc = v5 at *
      obtain ⟨a0, a1, a2, a3, a4⟩ := id K0
      obtain ⟨b0, b1, b2, b3, b4⟩ := id M0
      go_wp2_with fail
      refine (eqFrac_same _ _ _).mono ?_
      rintro ee vy ⟨rfl, hbl⟩
      clear a0 a1 a2 a3 a4 b0 b1 b2 b3 b4
      replace B := B.trans (hbl.mono B.size)
      clear hbl
      go_wp2_with fail
      go_ret
      exact ⟨rfl, B⟩
end Go.Proofs.YtjefbjjhdpidiaaDoor
