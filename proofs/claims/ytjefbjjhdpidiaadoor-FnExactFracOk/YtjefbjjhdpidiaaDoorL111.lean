/- The walk of the exact law of FracOk. -/
import Derived.Test.YtjefbjjhdpidiaaDoorF124
import Derived.Test.YtjefbjjhdpidiaaDoorF112
import Derived.Test.YtjefbjjhdpidiaaDoorL110
import Derived.Deep.RegionHeld3
import Derived.Deep.DeepCutAuto
import Derived.WalkKit
import Derived.WalkSpells
import Derived.WalkLawsBesides
import Derived.Deep.RegionHeld
namespace Go.Proofs.YtjefbjjhdpidiaaDoor
open Go.RowKit
set_option linter.unusedVariables false
set_option maxRecDepth 100000 in
set_option maxHeartbeats 16000000 in
theorem lawFracOk (x y : Int) (s : Addr) (w : World) (E : Er w 0 s) (g0' : (Lit.int .i64 x).wf = true) (g1' : (Lit.int .i64 y).wf = true) :
    Calls Tryd.prog 3 #[.agg #[.int .i64 x, .int .i64 y]] w fun e w' => e = .returned (.bool true) ∧ Below w.heap.size w w' := by
  clear g0' g1'
  have A0 := Below.nw w (.cells #[.int .i64 x, .int .i64 y] 23)
  have P0 := (Bx2.new w (.int .i64 x) (.int .i64 y) 23)
  have B := A0
  clear A0
  replace E := E.below B
  have CS := fun w' => specFracOk_any x y w'
  have CI := fun w' E' => implFracOk_any x y s w' E'
  generalize okF x y = ok at *
  go_enter Tryd.func3, Tryd.ntmps3
  go_upto_region 1 with fail
  generalize (w.alloc (.cells #[.int .i64 x, .int .i64 y] 23)) = v at *
  have SK : Hid (∀ w', Below v.heap.size v w' → (w'.cell? ⟨w.heap.size, 0, none⟩ = some (.int .i64 x) ∧ w'.cell? ⟨w.heap.size, 1, none⟩ = some (.int .i64 y))) := fun w' hw => ⟨(P0.below hw).2.1, (P0.below hw).2.2.1⟩
  go_upto_region 1 with fail
  go_cut [3] (fun s3 wx => s3 = (.bool ok) ∧ Below v.heap.size v wx)
  case first => as_aux_lemma =>
    have XB := Below.refl v.heap.size v
    obtain ⟨n0a, n0b, n0c, n0d, n0e⟩ := id P0
    go_wp2_with fail
    refine (toFrac_any _ _ _).mono ?_
    rintro ee vx ⟨rfl, hbl⟩
    replace XB := XB.trans (hbl.mono XB.size)
    clear hbl
    go_wp2_with fail
    refine (CS _).mono ?_
    rintro ee vx ⟨rfl, hbl⟩
    replace XB := XB.trans (hbl.mono XB.size)
    clear hbl
    go_wp2_with fail
    go_meet
    case rel => exact ⟨rfl, XB⟩
  case rest =>
    obtain ⟨rfl, XB⟩ := hcut
    replace P0 := P0.below XB
    replace E := E.below XB
    replace B := B.trans (XB.mono B.size)
    clear XB SK CS
    generalize wc = v4 at *
    have SK : Hid (∀ w', Below v4.heap.size v4 w' → (w'.cell? ⟨w.heap.size, 0, none⟩ = some (.int .i64 x) ∧ w'.cell? ⟨w.heap.size, 1, none⟩ = some (.int .i64 y))) := fun w' hw => ⟨(P0.below hw).2.1, (P0.below hw).2.2.1⟩
    go_upto_region 2 with fail
    go_cut [4] (fun s4 wx => s4 = (.bool ok) ∧ Below v4.heap.size v4 wx)
    case first => as_aux_lemma =>
      have XB := Below.refl v4.heap.size v4
      obtain ⟨n0a, n0b, n0c, n0d, n0e⟩ := id P0
      go_wp2_with fail
      refine (toFrac_any _ _ _).mono ?_
      rintro ee vx ⟨rfl, hbl⟩
      replace XB := XB.trans (hbl.mono XB.size)
      clear hbl
      go_wp2_with fail
      refine (CI _ (E.below XB)).mono ?_
      rintro ee vx ⟨rfl, hbl⟩
      replace XB := XB.trans (hbl.mono XB.size)
      clear hbl
      go_wp2_with fail
      go_meet
      case rel => exact ⟨rfl, XB⟩
    case rest =>
      obtain ⟨rfl, XB⟩ := hcut
      replace B := B.trans (XB.mono B.size)
      clear XB SK CI E
      generalize wc = v5 at *
      have zz : (ok != ok) = false := by simp
      go_wp2_with fail
      go_ret
      exact ⟨rfl, B⟩
end Go.Proofs.YtjefbjjhdpidiaaDoor
