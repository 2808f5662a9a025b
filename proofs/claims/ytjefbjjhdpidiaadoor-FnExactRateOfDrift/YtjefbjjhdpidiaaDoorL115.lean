/- The walk of the exact law of RateOfDrift. -/
import Derived.Test.YtjefbjjhdpidiaaDoorF130
import Derived.Test.YtjefbjjhdpidiaaDoorF115
import Derived.Test.YtjefbjjhdpidiaaDoorL110
import Derived.Deep.RegionHeld3
import Derived.Deep.DeepCutAuto
import Derived.WalkKit
import Derived.WalkSpells
import Derived.WalkLawsBesides
import Derived.Deep.RegionHeld
namespace Go.Proofs.YtjefbjjhdpidiaaDoor
open Go.RowKit
set_option linter.unusedVariables false
set_option maxRecDepth 100000 in
set_option maxHeartbeats 16000000 in
theorem lawRateOfDrift (n d : Int) (s : Addr) (w : World) (E : Er w 0 s) (g0' : (Lit.int .i64 n).wf = true) (g1' : (Lit.int .i64 d).wf = true) :
    Calls Tryd.prog 7 #[.agg #[.int .i64 n, .int .i64 d]] w fun e w' => e = .returned (.bool true) ∧ Below w.heap.size w w' := by
  clear g0' g1'
  have A0 := Below.nw w (.cells #[.int .i64 n, .int .i64 d] 41)
  have P0 := (Bx2.new w (.int .i64 n) (.int .i64 d) 41)
  have B := A0
  clear A0
  replace E := E.below B
  have CS := fun w' => specRateOfDrift_any n d w'
  have CI := fun w' E' => implRateOfDrift_any n d s w' E'
  generalize rdX n d = x1 at *
  generalize rdY n d = y1 at *
  generalize rdZ n d = x2 at *
  generalize rdU n d = y2 at *
  generalize okD n d = ok at *
  go_enter Tryd.func7, Tryd.ntmps7
  go_upto_region 1 with fail
  generalize (w.alloc (.cells #[.int .i64 n, .int .i64 d] 41)) = v at *
  have SK : Hid (∀ w', Below v.heap.size v w' → (w'.cell? ⟨w.heap.size, 0, none⟩ = some (.int .i64 n) ∧ w'.cell? ⟨w.heap.size, 1, none⟩ = some (.int .i64 d))) := fun w' hw => ⟨(P0.below hw).2.1, (P0.below hw).2.2.1⟩
  go_upto_region 1 with fail
  go_cut [3, 4, 5] (fun s3 s4 s5 wx => ∃ ak0 ak1 : Nat, s3 = .pointer (some ⟨ak0, 0, none⟩) ∧ s4 = .pointer (some ⟨ak1, 0, none⟩) ∧ s5 = (.bool ok) ∧ Bx2 wx ak0 (.int .i64 x1) (.int .i64 y1) ∧ Bx2 wx ak1 (.int .i64 x2) (.int .i64 y2) ∧ Below v.heap.size v wx)
  case first => as_aux_lemma =>
    have XB := Below.refl v.heap.size v
    obtain ⟨n0a, n0b, n0c, n0d, n0e⟩ := id P0
    go_wp2_with fail
    refine (toDrift_any _ _ _).mono ?_
    rintro ee vx ⟨rfl, hbl⟩
    replace XB := XB.trans (hbl.mono XB.size)
    clear hbl
    go_wp2_with fail
    refine (CS _).mono ?_
    rintro ee vx ⟨rfl, hbl⟩
    replace XB := XB.trans (hbl.mono XB.size)
    clear hbl
    have Z0 := Below.nw vx (.cells #[.int .i64 x1, .int .i64 y1] 25)
    have K0 := Bx2.new vx (.int .i64 x1) (.int .i64 y1) 25
    replace XB := XB.trans (Z0.mono XB.size)
    have Z1 := Below.nw (vx.alloc (.cells #[.int .i64 x1, .int .i64 y1] 25)) (.cells #[.int .i64 x2, .int .i64 y2] 25)
    have K1 := Bx2.new (vx.alloc (.cells #[.int .i64 x1, .int .i64 y1] 25)) (.int .i64 x2) (.int .i64 y2) 25
    simp only [World.size_alloc] at K1
    replace K0 := K0.below Z1
    replace XB := XB.trans (Z1.mono XB.size)
    go_wp2_with fail
    go_meet
    case rel => exact ⟨_, _, rfl, rfl, rfl, K0, K1, XB⟩
  case rest =>
    obtain ⟨ak0, ak1, rfl, rfl, rfl, K0, K1, XB⟩ := hcut
    replace P0 := P0.below XB
    replace E := E.below XB
    replace B := B.trans (XB.mono B.size)
    clear XB SK CS
    generalize wc = v4 at *
    have M0 := K0
    clear K0
    have M1 := K1
    clear K1
    have SK : Hid (∀ w', Below v4.heap.size v4 w' → (w'.cell? ⟨w.heap.size, 0, none⟩ = some (.int .i64 n) ∧ w'.cell? ⟨w.heap.size, 1, none⟩ = some (.int .i64 d))) := fun w' hw => ⟨(P0.below hw).2.1, (P0.below hw).2.2.1⟩
    go_upto_region 2 with fail
    go_cut [6, 7, 8] (fun s6 s7 s8 wx => ∃ bk0 bk1 : Nat, s6 = .pointer (some ⟨bk0, 0, none⟩) ∧ s7 = .pointer (some ⟨bk1, 0, none⟩) ∧ s8 = (.bool ok) ∧ Bx2 wx bk0 (.int .i64 x1) (.int .i64 y1) ∧ Bx2 wx bk1 (.int .i64 x2) (.int .i64 y2) ∧ Below v4.heap.size v4 wx)
    case first => as_aux_lemma =>
      have XB := Below.refl v4.heap.size v4
      obtain ⟨n0a, n0b, n0c, n0d, n0e⟩ := id P0
      go_wp2_with fail
      refine (toDrift_any _ _ _).mono ?_
      rintro ee vx ⟨rfl, hbl⟩
      replace XB := XB.trans (hbl.mono XB.size)
      clear hbl
      go_wp2_with fail
      refine (CI _ (E.below XB)).mono ?_
      rintro ee vx ⟨rfl, hbl⟩
      replace XB := XB.trans (hbl.mono XB.size)
      clear hbl
      have Z0 := Below.nw vx (.cells #[.int .i64 x1, .int .i64 y1] 25)
      have K0 := Bx2.new vx (.int .i64 x1) (.int .i64 y1) 25
      replace XB := XB.trans (Z0.mono XB.size)
      have Z1 := Below.nw (vx.alloc (.cells #[.int .i64 x1, .int .i64 y1] 25)) (.cells #[.int .i64 x2, .int .i64 y2] 25)
      have K1 := Bx2.new (vx.alloc (.cells #[.int .i64 x1, .int .i64 y1] 25)) (.int .i64 x2) (.int .i64 y2) 25
      simp only [World.size_alloc] at K1
      replace K0 := K0.below Z1
      replace XB := XB.trans (Z1.mono XB.size)
      go_wp2_with fail
      go_meet
      case rel => exact ⟨_, _, rfl, rfl, rfl, K0, K1, XB⟩
    case rest =>
      obtain ⟨bk0, bk1, rfl, rfl, rfl, K0, K1, XB⟩ := hcut
      replace M0 := M0.below XB
      replace M1 := M1.below XB
      replace B := B.trans (XB.mono B.size)
      clear XB SK CI E
      generalize wc = v5 at *
      obtain ⟨a0, a1, a2, a3, a4⟩ := id K0
      obtain ⟨b0, b1, b2, b3, b4⟩ := id M0
      go_wp2_with fail
      refine (eqFrac_same _ _ _).mono ?_
      rintro ee vy ⟨rfl, hbl⟩
      clear a0 a1 a2 a3 a4 b0 b1 b2 b3 b4
      replace K1 := K1.below hbl
      replace M1 := M1.below hbl
      replace B := B.trans (hbl.mono B.size)
      clear hbl
      obtain ⟨a0, a1, a2, a3, a4⟩ := id K1
      obtain ⟨b0, b1, b2, b3, b4⟩ := id M1
      go_wp2_with fail
      refine (eqFrac_same _ _ _).mono ?_
      rintro ee vy ⟨rfl, hbl⟩
      clear a0 a1 a2 a3 a4 b0 b1 b2 b3 b4
      replace B := B.trans (hbl.mono B.size)
      clear hbl
      go_wp2_with fail
      go_ret
      exact ⟨rfl, B⟩
end Go.Proofs.YtjefbjjhdpidiaaDoor
