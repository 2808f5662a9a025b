/- The walk of the exact law of TellLine. -/
import Derived.Test.YtddjiamollfplaaDoorI224
import Derived.Test.YtddjiamollfplaaDoorI222
import Derived.Test.YtddjiamollfplaaDoorJ200
import Derived.WalkKit
import Derived.WalkSpells
import Derived.WalkLawsBesides
import Derived.Deep.RegionHeld
namespace Go.Proofs.YtddjiamollfplaaDoor
open Go.RowKit
set_option linter.unusedVariables false
set_option maxHeartbeats 4000000 in
theorem walkTellLine (k nd cd v : Int) (hd kn : Bool) (wl wh nl nh : Int) (w : World) (E0 : T10 w ∧ OpW w) (q0 : (Lit.int .i64 k).wf = true) (q1 : (Lit.int .i64 nd).wf = true) (q2 : (Lit.int .i64 cd).wf = true) (q3 : (Lit.int .i64 v).wf = true) (q4 : (Lit.int .i64 wl).wf = true) (q5 : (Lit.int .i64 wh).wf = true) (q6 : (Lit.int .i64 nl).wf = true) (q7 : (Lit.int .i64 nh).wf = true) :
    Calls Tryd.prog 11 #[.agg #[.int .i64 k, .int .i64 nd, .int .i64 cd, .int .i64 v, .bool hd, .bool kn, .int .i64 wl, .int .i64 wh, .int .i64 nl, .int .i64 nh]] w fun e w' => e = .returned (.bool true) ∧ Below w.heap.size w w' := by
  have g0 := wfI q1
  have g1 := wfI q2
  have g2 := wfI q3
  have g3 := wfI q6
  have g4 := wfI q7
  have B := Below.nw w (.cells #[.int .i64 k, .int .i64 nd, .int .i64 cd, .int .i64 v, .bool hd, .bool kn, .int .i64 wl, .int .i64 wh, .int .i64 nl, .int .i64 nh] 63)
  have N := Bo.new w #[.int .i64 k, .int .i64 nd, .int .i64 cd, .int .i64 v, .bool hd, .bool kn, .int .i64 wl, .int .i64 wh, .int .i64 nl, .int .i64 nh] 63
  have HE : Hid (T10 w ∧ OpW w) := E0
  have CT := fun (u : World) => toTold_any k nd cd v hd kn wl wh nl nh u
  have CS := fun (u : World) => specTellLine_any k nd cd v hd kn wl wh nl nh u g0 g1 g2 g3 g4
  have CI := fun (u : World) (h : Below w.heap.size w u) => implTellLine_any k nd cd v hd kn wl wh nl nh u (HE.out.1.below h) (HE.out.2.below h) g0 g1 g2 g3 g4
  clear q0 q1 q2 q3 q4 q5 q6 q7 g0 g1 g2 g3 g4 E0
  generalize tlB k nd cd v hd nl nh = X at *
  go_enter Tryd.func11, Tryd.ntmps11
  go_upto_region 1 with fail
  generalize w.alloc (.cells #[.int .i64 k, .int .i64 nd, .int .i64 cd, .int .i64 v, .bool hd, .bool kn, .int .i64 wl, .int .i64 wh, .int .i64 nl, .int .i64 nh] 63) = x0 at *
  have c0 : x0.cell? ⟨w.heap.size, 0, none⟩ = some (.int .i64 k) := N.cell (i := 0) rfl
  have c1 : x0.cell? ⟨w.heap.size, 1, none⟩ = some (.int .i64 nd) := N.cell (i := 1) rfl
  have c2 : x0.cell? ⟨w.heap.size, 2, none⟩ = some (.int .i64 cd) := N.cell (i := 2) rfl
  have c3 : x0.cell? ⟨w.heap.size, 3, none⟩ = some (.int .i64 v) := N.cell (i := 3) rfl
  have c4 : x0.cell? ⟨w.heap.size, 4, none⟩ = some (.bool hd) := N.cell (i := 4) rfl
  have c5 : x0.cell? ⟨w.heap.size, 5, none⟩ = some (.bool kn) := N.cell (i := 5) rfl
  have c6 : x0.cell? ⟨w.heap.size, 6, none⟩ = some (.int .i64 wl) := N.cell (i := 6) rfl
  have c7 : x0.cell? ⟨w.heap.size, 7, none⟩ = some (.int .i64 wh) := N.cell (i := 7) rfl
  have c8 : x0.cell? ⟨w.heap.size, 8, none⟩ = some (.int .i64 nl) := N.cell (i := 8) rfl
  have c9 : x0.cell? ⟨w.heap.size, 9, none⟩ = some (.int .i64 nh) := N.cell (i := 9) rfl
  go_wp2_with fail
  refine (CT _).mono ?_
  rintro e x1 ⟨rfl, hb⟩
  replace N := N.below hb
  replace B := B.trans (hb.mono B.size)
  clear hb c0 c1 c2 c3 c4 c5 c6 c7 c8 c9
  go_wp2_with fail
  refine (CS _).mono ?_
  rintro e x2 ⟨rfl, hb⟩
  replace N := N.below hb
  replace B := B.trans (hb.mono B.size)
  clear hb
  have c0 : x2.cell? ⟨w.heap.size, 0, none⟩ = some (.int .i64 k) := N.cell (i := 0) rfl
  have c1 : x2.cell? ⟨w.heap.size, 1, none⟩ = some (.int .i64 nd) := N.cell (i := 1) rfl
  have c2 : x2.cell? ⟨w.heap.size, 2, none⟩ = some (.int .i64 cd) := N.cell (i := 2) rfl
  have c3 : x2.cell? ⟨w.heap.size, 3, none⟩ = some (.int .i64 v) := N.cell (i := 3) rfl
  have c4 : x2.cell? ⟨w.heap.size, 4, none⟩ = some (.bool hd) := N.cell (i := 4) rfl
  have c5 : x2.cell? ⟨w.heap.size, 5, none⟩ = some (.bool kn) := N.cell (i := 5) rfl
  have c6 : x2.cell? ⟨w.heap.size, 6, none⟩ = some (.int .i64 wl) := N.cell (i := 6) rfl
  have c7 : x2.cell? ⟨w.heap.size, 7, none⟩ = some (.int .i64 wh) := N.cell (i := 7) rfl
  have c8 : x2.cell? ⟨w.heap.size, 8, none⟩ = some (.int .i64 nl) := N.cell (i := 8) rfl
  have c9 : x2.cell? ⟨w.heap.size, 9, none⟩ = some (.int .i64 nh) := N.cell (i := 9) rfl
  go_wp2_with fail
  refine (CT _).mono ?_
  rintro e x3 ⟨rfl, hb⟩
  replace B := B.trans (hb.mono B.size)
  clear hb N c0 c1 c2 c3 c4 c5 c6 c7 c8 c9
  go_wp2_with fail
  refine (CI _ B).mono ?_
  rintro e x4 ⟨rfl, hb⟩
  go_wp2_with fail
  go_ret
  exact ⟨rfl, B.trans (hb.mono B.size)⟩
end Go.Proofs.YtddjiamollfplaaDoor
