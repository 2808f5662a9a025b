/- TellLine in the specification. -/
import Derived.Test.YtddjiamollfplaaDoorI221
import Derived.Test.YtddjiamollfplaaDoorZ200
import Derived.Deep.RegionHeld3
import Derived.WalkKit
import Derived.WalkSpells
import Derived.WalkLawsBesides
import Derived.Deep.RegionHeld
namespace Go.Proofs.YtddjiamollfplaaDoor
open Go.RowKit
set_option linter.unusedVariables false
set_option maxHeartbeats 4000000 in
theorem specTell_1 (nd cd v : Int) (hd kn : Bool) (wl wh nl nh : Int) (w : World) (g0 : -9223372036854775808 ≤ nd ∧ nd ≤ 9223372036854775807) (g1 : -9223372036854775808 ≤ cd ∧ cd ≤ 9223372036854775807) (g2 : -9223372036854775808 ≤ v ∧ v ≤ 9223372036854775807) (g3 : -9223372036854775808 ≤ nl ∧ nl ≤ 9223372036854775807) (g4 : -9223372036854775808 ≤ nh ∧ nh ≤ 9223372036854775807) :
    Calls Tryd.prog 42 #[.agg #[.int .i64 1, .int .i64 nd, .int .i64 cd, .int .i64 v, .bool hd, .bool kn, .int .i64 wl, .int .i64 wh, .int .i64 nl, .int .i64 nh]] w fun e w' => e = .returned (.string (tlB 1 nd cd v hd nl nh)) ∧ Below w.heap.size w w' := by
  have HX : Hid (tlB 1 nd cd v hd nl nh = nmK 1) := by (show tlB 1 nd cd v hd nl nh = _; unfold tlB; rw [if_pos (by omega)])
  clear g0 g1 g2 g3 g4
  have B := Below.nw w (.cells #[.int .i64 1, .int .i64 nd, .int .i64 cd, .int .i64 v, .bool hd, .bool kn, .int .i64 wl, .int .i64 wh, .int .i64 nl, .int .i64 nh] 66)
  have N := Bo.new w #[.int .i64 1, .int .i64 nd, .int .i64 cd, .int .i64 v, .bool hd, .bool kn, .int .i64 wl, .int .i64 wh, .int .i64 nl, .int .i64 nh] 66
  have CN := fun u => specName_any 1 u
  generalize nmK 1 = nm at *
  go_enter Tryd.func42, Tryd.ntmps42
  go_upto_region 1 with fail
  generalize w.alloc (.cells #[.int .i64 1, .int .i64 nd, .int .i64 cd, .int .i64 v, .bool hd, .bool kn, .int .i64 wl, .int .i64 wh, .int .i64 nl, .int .i64 nh] 66) = x0 at *
  have c0 : x0.cell? ⟨w.heap.size, 0, none⟩ = some (.int .i64 1) := N.cell (i := 0) rfl
  have c1 : x0.cell? ⟨w.heap.size, 1, none⟩ = some (.int .i64 nd) := N.cell (i := 1) rfl
  have c2 : x0.cell? ⟨w.heap.size, 2, none⟩ = some (.int .i64 cd) := N.cell (i := 2) rfl
  have c3 : x0.cell? ⟨w.heap.size, 3, none⟩ = some (.int .i64 v) := N.cell (i := 3) rfl
  have c4 : x0.cell? ⟨w.heap.size, 4, none⟩ = some (.bool hd) := N.cell (i := 4) rfl
  have c5 : x0.cell? ⟨w.heap.size, 5, none⟩ = some (.bool kn) := N.cell (i := 5) rfl
  have c6 : x0.cell? ⟨w.heap.size, 6, none⟩ = some (.int .i64 wl) := N.cell (i := 6) rfl
  have c7 : x0.cell? ⟨w.heap.size, 7, none⟩ = some (.int .i64 wh) := N.cell (i := 7) rfl
  have c8 : x0.cell? ⟨w.heap.size, 8, none⟩ = some (.int .i64 nl) := N.cell (i := 8) rfl
  have c9 : x0.cell? ⟨w.heap.size, 9, none⟩ = some (.int .i64 nh) := N.cell (i := 9) rfl
  go_wp2_with fail
  refine (CN _).mono ?_
  rintro e x1 ⟨rfl, hb⟩
  replace N := N.below hb
  replace B := B.trans (hb.mono B.size)
  clear hb CN c0 c1 c2 c3 c4 c5 c6 c7 c8 c9
  have c0 : x1.cell? ⟨w.heap.size, 0, none⟩ = some (.int .i64 1) := N.cell (i := 0) rfl
  have c1 : x1.cell? ⟨w.heap.size, 1, none⟩ = some (.int .i64 nd) := N.cell (i := 1) rfl
  have c2 : x1.cell? ⟨w.heap.size, 2, none⟩ = some (.int .i64 cd) := N.cell (i := 2) rfl
  have c3 : x1.cell? ⟨w.heap.size, 3, none⟩ = some (.int .i64 v) := N.cell (i := 3) rfl
  have c4 : x1.cell? ⟨w.heap.size, 4, none⟩ = some (.bool hd) := N.cell (i := 4) rfl
  have c5 : x1.cell? ⟨w.heap.size, 5, none⟩ = some (.bool kn) := N.cell (i := 5) rfl
  have c6 : x1.cell? ⟨w.heap.size, 6, none⟩ = some (.int .i64 wl) := N.cell (i := 6) rfl
  have c7 : x1.cell? ⟨w.heap.size, 7, none⟩ = some (.int .i64 wh) := N.cell (i := 7) rfl
  have c8 : x1.cell? ⟨w.heap.size, 8, none⟩ = some (.int .i64 nl) := N.cell (i := 8) rfl
  have c9 : x1.cell? ⟨w.heap.size, 9, none⟩ = some (.int .i64 nh) := N.cell (i := 9) rfl
  go_wp2_with fail
  go_ret
  exact ⟨by rw [HX.out]; rfl, B⟩
set_option maxHeartbeats 4000000 in
theorem specTell_11 (nd cd v : Int) (hd kn : Bool) (wl wh nl nh : Int) (w : World) (g0 : -9223372036854775808 ≤ nd ∧ nd ≤ 9223372036854775807) (g1 : -9223372036854775808 ≤ cd ∧ cd ≤ 9223372036854775807) (g2 : -9223372036854775808 ≤ v ∧ v ≤ 9223372036854775807) (g3 : -9223372036854775808 ≤ nl ∧ nl ≤ 9223372036854775807) (g4 : -9223372036854775808 ≤ nh ∧ nh ≤ 9223372036854775807) :
    Calls Tryd.prog 42 #[.agg #[.int .i64 11, .int .i64 nd, .int .i64 cd, .int .i64 v, .bool hd, .bool kn, .int .i64 wl, .int .i64 wh, .int .i64 nl, .int .i64 nh]] w fun e w' => e = .returned (.string (tlB 11 nd cd v hd nl nh)) ∧ Below w.heap.size w w' := by
  have HX : Hid (tlB 11 nd cd v hd nl nh = nmK 11) := by (show tlB 11 nd cd v hd nl nh = _; unfold tlB; rw [if_pos (by omega)])
  clear g0 g1 g2 g3 g4
  have B := Below.nw w (.cells #[.int .i64 11, .int .i64 nd, .int .i64 cd, .int .i64 v, .bool hd, .bool kn, .int .i64 wl, .int .i64 wh, .int .i64 nl, .int .i64 nh] 66)
  have N := Bo.new w #[.int .i64 11, .int .i64 nd, .int .i64 cd, .int .i64 v, .bool hd, .bool kn, .int .i64 wl, .int .i64 wh, .int .i64 nl, .int .i64 nh] 66
  have CN := fun u => specName_any 11 u
  generalize nmK 11 = nm at *
  go_enter Tryd.func42, Tryd.ntmps42
  go_upto_region 1 with fail
  generalize w.alloc (.cells #[.int .i64 11, .int .i64 nd, .int .i64 cd, .int .i64 v, .bool hd, .bool kn, .int .i64 wl, .int .i64 wh, .int .i64 nl, .int .i64 nh] 66) = x0 at *
  have c0 : x0.cell? ⟨w.heap.size, 0, none⟩ = some (.int .i64 11) := N.cell (i := 0) rfl
  have c1 : x0.cell? ⟨w.heap.size, 1, none⟩ = some (.int .i64 nd) := N.cell (i := 1) rfl
  have c2 : x0.cell? ⟨w.heap.size, 2, none⟩ = some (.int .i64 cd) := N.cell (i := 2) rfl
  have c3 : x0.cell? ⟨w.heap.size, 3, none⟩ = some (.int .i64 v) := N.cell (i := 3) rfl
  have c4 : x0.cell? ⟨w.heap.size, 4, none⟩ = some (.bool hd) := N.cell (i := 4) rfl
  have c5 : x0.cell? ⟨w.heap.size, 5, none⟩ = some (.bool kn) := N.cell (i := 5) rfl
  have c6 : x0.cell? ⟨w.heap.size, 6, none⟩ = some (.int .i64 wl) := N.cell (i := 6) rfl
  have c7 : x0.cell? ⟨w.heap.size, 7, none⟩ = some (.int .i64 wh) := N.cell (i := 7) rfl
  have c8 : x0.cell? ⟨w.heap.size, 8, none⟩ = some (.int .i64 nl) := N.cell (i := 8) rfl
  have c9 : x0.cell? ⟨w.heap.size, 9, none⟩ = some (.int .i64 nh) := N.cell (i := 9) rfl
  go_wp2_with fail
  refine (CN _).mono ?_
  rintro e x1 ⟨rfl, hb⟩
  replace N := N.below hb
  replace B := B.trans (hb.mono B.size)
  clear hb CN c0 c1 c2 c3 c4 c5 c6 c7 c8 c9
  have c0 : x1.cell? ⟨w.heap.size, 0, none⟩ = some (.int .i64 11) := N.cell (i := 0) rfl
  have c1 : x1.cell? ⟨w.heap.size, 1, none⟩ = some (.int .i64 nd) := N.cell (i := 1) rfl
  have c2 : x1.cell? ⟨w.heap.size, 2, none⟩ = some (.int .i64 cd) := N.cell (i := 2) rfl
  have c3 : x1.cell? ⟨w.heap.size, 3, none⟩ = some (.int .i64 v) := N.cell (i := 3) rfl
  have c4 : x1.cell? ⟨w.heap.size, 4, none⟩ = some (.bool hd) := N.cell (i := 4) rfl
  have c5 : x1.cell? ⟨w.heap.size, 5, none⟩ = some (.bool kn) := N.cell (i := 5) rfl
  have c6 : x1.cell? ⟨w.heap.size, 6, none⟩ = some (.int .i64 wl) := N.cell (i := 6) rfl
  have c7 : x1.cell? ⟨w.heap.size, 7, none⟩ = some (.int .i64 wh) := N.cell (i := 7) rfl
  have c8 : x1.cell? ⟨w.heap.size, 8, none⟩ = some (.int .i64 nl) := N.cell (i := 8) rfl
  have c9 : x1.cell? ⟨w.heap.size, 9, none⟩ = some (.int .i64 nh) := N.cell (i := 9) rfl
  go_wp2_with fail
  go_ret
  exact ⟨by rw [HX.out]; rfl, B⟩
set_option maxHeartbeats 4000000 in
theorem specTell_12 (nd cd v : Int) (hd kn : Bool) (wl wh nl nh : Int) (w : World) (g0 : -9223372036854775808 ≤ nd ∧ nd ≤ 9223372036854775807) (g1 : -9223372036854775808 ≤ cd ∧ cd ≤ 9223372036854775807) (g2 : -9223372036854775808 ≤ v ∧ v ≤ 9223372036854775807) (g3 : -9223372036854775808 ≤ nl ∧ nl ≤ 9223372036854775807) (g4 : -9223372036854775808 ≤ nh ∧ nh ≤ 9223372036854775807) :
    Calls Tryd.prog 42 #[.agg #[.int .i64 12, .int .i64 nd, .int .i64 cd, .int .i64 v, .bool hd, .bool kn, .int .i64 wl, .int .i64 wh, .int .i64 nl, .int .i64 nh]] w fun e w' => e = .returned (.string (tlB 12 nd cd v hd nl nh)) ∧ Below w.heap.size w w' := by
  have HX : Hid (tlB 12 nd cd v hd nl nh = nmK 12) := by (show tlB 12 nd cd v hd nl nh = _; unfold tlB; rw [if_pos (by omega)])
  clear g0 g1 g2 g3 g4
  have B := Below.nw w (.cells #[.int .i64 12, .int .i64 nd, .int .i64 cd, .int .i64 v, .bool hd, .bool kn, .int .i64 wl, .int .i64 wh, .int .i64 nl, .int .i64 nh] 66)
  have N := Bo.new w #[.int .i64 12, .int .i64 nd, .int .i64 cd, .int .i64 v, .bool hd, .bool kn, .int .i64 wl, .int .i64 wh, .int .i64 nl, .int .i64 nh] 66
  have CN := fun u => specName_any 12 u
  generalize nmK 12 = nm at *
  go_enter Tryd.func42, Tryd.ntmps42
  go_upto_region 1 with fail
  generalize w.alloc (.cells #[.int .i64 12, .int .i64 nd, .int .i64 cd, .int .i64 v, .bool hd, .bool kn, .int .i64 wl, .int .i64 wh, .int .i64 nl, .int .i64 nh] 66) = x0 at *
  have c0 : x0.cell? ⟨w.heap.size, 0, none⟩ = some (.int .i64 12) := N.cell (i := 0) rfl
  have c1 : x0.cell? ⟨w.heap.size, 1, none⟩ = some (.int .i64 nd) := N.cell (i := 1) rfl
  have c2 : x0.cell? ⟨w.heap.size, 2, none⟩ = some (.int .i64 cd) := N.cell (i := 2) rfl
  have c3 : x0.cell? ⟨w.heap.size, 3, none⟩ = some (.int .i64 v) := N.cell (i := 3) rfl
  have c4 : x0.cell? ⟨w.heap.size, 4, none⟩ = some (.bool hd) := N.cell (i := 4) rfl
  have c5 : x0.cell? ⟨w.heap.size, 5, none⟩ = some (.bool kn) := N.cell (i := 5) rfl
  have c6 : x0.cell? ⟨w.heap.size, 6, none⟩ = some (.int .i64 wl) := N.cell (i := 6) rfl
  have c7 : x0.cell? ⟨w.heap.size, 7, none⟩ = some (.int .i64 wh) := N.cell (i := 7) rfl
  have c8 : x0.cell? ⟨w.heap.size, 8, none⟩ = some (.int .i64 nl) := N.cell (i := 8) rfl
  have c9 : x0.cell? ⟨w.heap.size, 9, none⟩ = some (.int .i64 nh) := N.cell (i := 9) rfl
  go_wp2_with fail
  refine (CN _).mono ?_
  rintro e x1 ⟨rfl, hb⟩
  replace N := N.below hb
  replace B := B.trans (hb.mono B.size)
  clear hb CN c0 c1 c2 c3 c4 c5 c6 c7 c8 c9
  have c0 : x1.cell? ⟨w.heap.size, 0, none⟩ = some (.int .i64 12) := N.cell (i := 0) rfl
  have c1 : x1.cell? ⟨w.heap.size, 1, none⟩ = some (.int .i64 nd) := N.cell (i := 1) rfl
  have c2 : x1.cell? ⟨w.heap.size, 2, none⟩ = some (.int .i64 cd) := N.cell (i := 2) rfl
  have c3 : x1.cell? ⟨w.heap.size, 3, none⟩ = some (.int .i64 v) := N.cell (i := 3) rfl
  have c4 : x1.cell? ⟨w.heap.size, 4, none⟩ = some (.bool hd) := N.cell (i := 4) rfl
  have c5 : x1.cell? ⟨w.heap.size, 5, none⟩ = some (.bool kn) := N.cell (i := 5) rfl
  have c6 : x1.cell? ⟨w.heap.size, 6, none⟩ = some (.int .i64 wl) := N.cell (i := 6) rfl
  have c7 : x1.cell? ⟨w.heap.size, 7, none⟩ = some (.int .i64 wh) := N.cell (i := 7) rfl
  have c8 : x1.cell? ⟨w.heap.size, 8, none⟩ = some (.int .i64 nl) := N.cell (i := 8) rfl
  have c9 : x1.cell? ⟨w.heap.size, 9, none⟩ = some (.int .i64 nh) := N.cell (i := 9) rfl
  go_wp2_with fail
  go_ret
  exact ⟨by rw [HX.out]; rfl, B⟩
set_option maxHeartbeats 4000000 in
theorem specTell_13 (nd cd v : Int) (hd kn : Bool) (wl wh nl nh : Int) (w : World) (g0 : -9223372036854775808 ≤ nd ∧ nd ≤ 9223372036854775807) (g1 : -9223372036854775808 ≤ cd ∧ cd ≤ 9223372036854775807) (g2 : -9223372036854775808 ≤ v ∧ v ≤ 9223372036854775807) (g3 : -9223372036854775808 ≤ nl ∧ nl ≤ 9223372036854775807) (g4 : -9223372036854775808 ≤ nh ∧ nh ≤ 9223372036854775807) :
    Calls Tryd.prog 42 #[.agg #[.int .i64 13, .int .i64 nd, .int .i64 cd, .int .i64 v, .bool hd, .bool kn, .int .i64 wl, .int .i64 wh, .int .i64 nl, .int .i64 nh]] w fun e w' => e = .returned (.string (tlB 13 nd cd v hd nl nh)) ∧ Below w.heap.size w w' := by
  have HX : Hid (tlB 13 nd cd v hd nl nh = nmK 13) := by (show tlB 13 nd cd v hd nl nh = _; unfold tlB; rw [if_pos (by omega)])
  clear g0 g1 g2 g3 g4
  have B := Below.nw w (.cells #[.int .i64 13, .int .i64 nd, .int .i64 cd, .int .i64 v, .bool hd, .bool kn, .int .i64 wl, .int .i64 wh, .int .i64 nl, .int .i64 nh] 66)
  have N := Bo.new w #[.int .i64 13, .int .i64 nd, .int .i64 cd, .int .i64 v, .bool hd, .bool kn, .int .i64 wl, .int .i64 wh, .int .i64 nl, .int .i64 nh] 66
  have CN := fun u => specName_any 13 u
  generalize nmK 13 = nm at *
  go_enter Tryd.func42, Tryd.ntmps42
  go_upto_region 1 with fail
  generalize w.alloc (.cells #[.int .i64 13, .int .i64 nd, .int .i64 cd, .int .i64 v, .bool hd, .bool kn, .int .i64 wl, .int .i64 wh, .int .i64 nl, .int .i64 nh] 66) = x0 at *
  have c0 : x0.cell? ⟨w.heap.size, 0, none⟩ = some (.int .i64 13) := N.cell (i := 0) rfl
  have c1 : x0.cell? ⟨w.heap.size, 1, none⟩ = some (.int .i64 nd) := N.cell (i := 1) rfl
  have c2 : x0.cell? ⟨w.heap.size, 2, none⟩ = some (.int .i64 cd) := N.cell (i := 2) rfl
  have c3 : x0.cell? ⟨w.heap.size, 3, none⟩ = some (.int .i64 v) := N.cell (i := 3) rfl
  have c4 : x0.cell? ⟨w.heap.size, 4, none⟩ = some (.bool hd) := N.cell (i := 4) rfl
  have c5 : x0.cell? ⟨w.heap.size, 5, none⟩ = some (.bool kn) := N.cell (i := 5) rfl
  have c6 : x0.cell? ⟨w.heap.size, 6, none⟩ = some (.int .i64 wl) := N.cell (i := 6) rfl
  have c7 : x0.cell? ⟨w.heap.size, 7, none⟩ = some (.int .i64 wh) := N.cell (i := 7) rfl
  have c8 : x0.cell? ⟨w.heap.size, 8, none⟩ = some (.int .i64 nl) := N.cell (i := 8) rfl
  have c9 : x0.cell? ⟨w.heap.size, 9, none⟩ = some (.int .i64 nh) := N.cell (i := 9) rfl
  go_wp2_with fail
  refine (CN _).mono ?_
  rintro e x1 ⟨rfl, hb⟩
  replace N := N.below hb
  replace B := B.trans (hb.mono B.size)
  clear hb CN c0 c1 c2 c3 c4 c5 c6 c7 c8 c9
  have c0 : x1.cell? ⟨w.heap.size, 0, none⟩ = some (.int .i64 13) := N.cell (i := 0) rfl
  have c1 : x1.cell? ⟨w.heap.size, 1, none⟩ = some (.int .i64 nd) := N.cell (i := 1) rfl
  have c2 : x1.cell? ⟨w.heap.size, 2, none⟩ = some (.int .i64 cd) := N.cell (i := 2) rfl
  have c3 : x1.cell? ⟨w.heap.size, 3, none⟩ = some (.int .i64 v) := N.cell (i := 3) rfl
  have c4 : x1.cell? ⟨w.heap.size, 4, none⟩ = some (.bool hd) := N.cell (i := 4) rfl
  have c5 : x1.cell? ⟨w.heap.size, 5, none⟩ = some (.bool kn) := N.cell (i := 5) rfl
  have c6 : x1.cell? ⟨w.heap.size, 6, none⟩ = some (.int .i64 wl) := N.cell (i := 6) rfl
  have c7 : x1.cell? ⟨w.heap.size, 7, none⟩ = some (.int .i64 wh) := N.cell (i := 7) rfl
  have c8 : x1.cell? ⟨w.heap.size, 8, none⟩ = some (.int .i64 nl) := N.cell (i := 8) rfl
  have c9 : x1.cell? ⟨w.heap.size, 9, none⟩ = some (.int .i64 nh) := N.cell (i := 9) rfl
  go_wp2_with fail
  go_ret
  exact ⟨by rw [HX.out]; rfl, B⟩
set_option maxHeartbeats 4000000 in
theorem specTell_14 (nd cd v : Int) (hd kn : Bool) (wl wh nl nh : Int) (w : World) (g0 : -9223372036854775808 ≤ nd ∧ nd ≤ 9223372036854775807) (g1 : -9223372036854775808 ≤ cd ∧ cd ≤ 9223372036854775807) (g2 : -9223372036854775808 ≤ v ∧ v ≤ 9223372036854775807) (g3 : -9223372036854775808 ≤ nl ∧ nl ≤ 9223372036854775807) (g4 : -9223372036854775808 ≤ nh ∧ nh ≤ 9223372036854775807) :
    Calls Tryd.prog 42 #[.agg #[.int .i64 14, .int .i64 nd, .int .i64 cd, .int .i64 v, .bool hd, .bool kn, .int .i64 wl, .int .i64 wh, .int .i64 nl, .int .i64 nh]] w fun e w' => e = .returned (.string (tlB 14 nd cd v hd nl nh)) ∧ Below w.heap.size w w' := by
  have HX : Hid (tlB 14 nd cd v hd nl nh = nmK 14) := by (show tlB 14 nd cd v hd nl nh = _; unfold tlB; rw [if_pos (by omega)])
  clear g0 g1 g2 g3 g4
  have B := Below.nw w (.cells #[.int .i64 14, .int .i64 nd, .int .i64 cd, .int .i64 v, .bool hd, .bool kn, .int .i64 wl, .int .i64 wh, .int .i64 nl, .int .i64 nh] 66)
  have N := Bo.new w #[.int .i64 14, .int .i64 nd, .int .i64 cd, .int .i64 v, .bool hd, .bool kn, .int .i64 wl, .int .i64 wh, .int .i64 nl, .int .i64 nh] 66
  have CN := fun u => specName_any 14 u
  generalize nmK 14 = nm at *
  go_enter Tryd.func42, Tryd.ntmps42
  go_upto_region 1 with fail
  generalize w.alloc (.cells #[.int .i64 14, .int .i64 nd, .int .i64 cd, .int .i64 v, .bool hd, .bool kn, .int .i64 wl, .int .i64 wh, .int .i64 nl, .int .i64 nh] 66) = x0 at *
  have c0 : x0.cell? ⟨w.heap.size, 0, none⟩ = some (.int .i64 14) := N.cell (i := 0) rfl
  have c1 : x0.cell? ⟨w.heap.size, 1, none⟩ = some (.int .i64 nd) := N.cell (i := 1) rfl
  have c2 : x0.cell? ⟨w.heap.size, 2, none⟩ = some (.int .i64 cd) := N.cell (i := 2) rfl
  have c3 : x0.cell? ⟨w.heap.size, 3, none⟩ = some (.int .i64 v) := N.cell (i := 3) rfl
  have c4 : x0.cell? ⟨w.heap.size, 4, none⟩ = some (.bool hd) := N.cell (i := 4) rfl
  have c5 : x0.cell? ⟨w.heap.size, 5, none⟩ = some (.bool kn) := N.cell (i := 5) rfl
  have c6 : x0.cell? ⟨w.heap.size, 6, none⟩ = some (.int .i64 wl) := N.cell (i := 6) rfl
  have c7 : x0.cell? ⟨w.heap.size, 7, none⟩ = some (.int .i64 wh) := N.cell (i := 7) rfl
  have c8 : x0.cell? ⟨w.heap.size, 8, none⟩ = some (.int .i64 nl) := N.cell (i := 8) rfl
  have c9 : x0.cell? ⟨w.heap.size, 9, none⟩ = some (.int .i64 nh) := N.cell (i := 9) rfl
  go_wp2_with fail
  refine (CN _).mono ?_
  rintro e x1 ⟨rfl, hb⟩
  replace N := N.below hb
  replace B := B.trans (hb.mono B.size)
  clear hb CN c0 c1 c2 c3 c4 c5 c6 c7 c8 c9
  have c0 : x1.cell? ⟨w.heap.size, 0, none⟩ = some (.int .i64 14) := N.cell (i := 0) rfl
  have c1 : x1.cell? ⟨w.heap.size, 1, none⟩ = some (.int .i64 nd) := N.cell (i := 1) rfl
  have c2 : x1.cell? ⟨w.heap.size, 2, none⟩ = some (.int .i64 cd) := N.cell (i := 2) rfl
  have c3 : x1.cell? ⟨w.heap.size, 3, none⟩ = some (.int .i64 v) := N.cell (i := 3) rfl
  have c4 : x1.cell? ⟨w.heap.size, 4, none⟩ = some (.bool hd) := N.cell (i := 4) rfl
  have c5 : x1.cell? ⟨w.heap.size, 5, none⟩ = some (.bool kn) := N.cell (i := 5) rfl
  have c6 : x1.cell? ⟨w.heap.size, 6, none⟩ = some (.int .i64 wl) := N.cell (i := 6) rfl
  have c7 : x1.cell? ⟨w.heap.size, 7, none⟩ = some (.int .i64 wh) := N.cell (i := 7) rfl
  have c8 : x1.cell? ⟨w.heap.size, 8, none⟩ = some (.int .i64 nl) := N.cell (i := 8) rfl
  have c9 : x1.cell? ⟨w.heap.size, 9, none⟩ = some (.int .i64 nh) := N.cell (i := 9) rfl
  go_wp2_with fail
  go_ret
  exact ⟨by rw [HX.out]; rfl, B⟩
set_option maxHeartbeats 4000000 in
theorem specTell_no (k : Int) (hk : k < 1 ∨ 14 < k) (nd cd v : Int) (hd kn : Bool) (wl wh nl nh : Int) (w : World) (g0 : -9223372036854775808 ≤ nd ∧ nd ≤ 9223372036854775807) (g1 : -9223372036854775808 ≤ cd ∧ cd ≤ 9223372036854775807) (g2 : -9223372036854775808 ≤ v ∧ v ≤ 9223372036854775807) (g3 : -9223372036854775808 ≤ nl ∧ nl ≤ 9223372036854775807) (g4 : -9223372036854775808 ≤ nh ∧ nh ≤ 9223372036854775807) :
    Calls Tryd.prog 42 #[.agg #[.int .i64 k, .int .i64 nd, .int .i64 cd, .int .i64 v, .bool hd, .bool kn, .int .i64 wl, .int .i64 wh, .int .i64 nl, .int .i64 nh]] w fun e w' => e = .returned (.string (tlB k nd cd v hd nl nh)) ∧ Below w.heap.size w w' := by
  have HX : Hid (tlB k nd cd v hd nl nh = ⟨#[]⟩) := by (show tlB k nd cd v hd nl nh = _; unfold tlB; rw [if_neg (by omega), if_pos hk])
  have d1 : (k == 1) = false := by (rw [beq_eq_false_iff_ne]; omega)
  have d2 : (k == 11) = false := by (rw [beq_eq_false_iff_ne]; omega)
  have d3 : (k == 12) = false := by (rw [beq_eq_false_iff_ne]; omega)
  have d4 : (k == 13) = false := by (rw [beq_eq_false_iff_ne]; omega)
  have d5 : (k == 14) = false := by (rw [beq_eq_false_iff_ne]; omega)
  have hn := nmK_no (k := k) (by omega)
  clear g0 g1 g2 g3 g4 hk
  have B := Below.nw w (.cells #[.int .i64 k, .int .i64 nd, .int .i64 cd, .int .i64 v, .bool hd, .bool kn, .int .i64 wl, .int .i64 wh, .int .i64 nl, .int .i64 nh] 66)
  have N := Bo.new w #[.int .i64 k, .int .i64 nd, .int .i64 cd, .int .i64 v, .bool hd, .bool kn, .int .i64 wl, .int .i64 wh, .int .i64 nl, .int .i64 nh] 66
  have CN := fun u => specName_any k u
  rw [hn] at CN
  clear hn
  go_enter Tryd.func42, Tryd.ntmps42
  go_upto_region 1 with fail
  generalize w.alloc (.cells #[.int .i64 k, .int .i64 nd, .int .i64 cd, .int .i64 v, .bool hd, .bool kn, .int .i64 wl, .int .i64 wh, .int .i64 nl, .int .i64 nh] 66) = x0 at *
  have c0 : x0.cell? ⟨w.heap.size, 0, none⟩ = some (.int .i64 k) := N.cell (i := 0) rfl
  have c1 : x0.cell? ⟨w.heap.size, 1, none⟩ = some (.int .i64 nd) := N.cell (i := 1) rfl
  have c2 : x0.cell? ⟨w.heap.size, 2, none⟩ = some (.int .i64 cd) := N.cell (i := 2) rfl
  have c3 : x0.cell? ⟨w.heap.size, 3, none⟩ = some (.int .i64 v) := N.cell (i := 3) rfl
  have c4 : x0.cell? ⟨w.heap.size, 4, none⟩ = some (.bool hd) := N.cell (i := 4) rfl
  have c5 : x0.cell? ⟨w.heap.size, 5, none⟩ = some (.bool kn) := N.cell (i := 5) rfl
  have c6 : x0.cell? ⟨w.heap.size, 6, none⟩ = some (.int .i64 wl) := N.cell (i := 6) rfl
  have c7 : x0.cell? ⟨w.heap.size, 7, none⟩ = some (.int .i64 wh) := N.cell (i := 7) rfl
  have c8 : x0.cell? ⟨w.heap.size, 8, none⟩ = some (.int .i64 nl) := N.cell (i := 8) rfl
  have c9 : x0.cell? ⟨w.heap.size, 9, none⟩ = some (.int .i64 nh) := N.cell (i := 9) rfl
  go_wp2_with fail
  refine (CN _).mono ?_
  rintro e x1 ⟨rfl, hb⟩
  replace N := N.below hb
  replace B := B.trans (hb.mono B.size)
  clear hb CN c0 c1 c2 c3 c4 c5 c6 c7 c8 c9
  have c0 : x1.cell? ⟨w.heap.size, 0, none⟩ = some (.int .i64 k) := N.cell (i := 0) rfl
  have c1 : x1.cell? ⟨w.heap.size, 1, none⟩ = some (.int .i64 nd) := N.cell (i := 1) rfl
  have c2 : x1.cell? ⟨w.heap.size, 2, none⟩ = some (.int .i64 cd) := N.cell (i := 2) rfl
  have c3 : x1.cell? ⟨w.heap.size, 3, none⟩ = some (.int .i64 v) := N.cell (i := 3) rfl
  have c4 : x1.cell? ⟨w.heap.size, 4, none⟩ = some (.bool hd) := N.cell (i := 4) rfl
  have c5 : x1.cell? ⟨w.heap.size, 5, none⟩ = some (.bool kn) := N.cell (i := 5) rfl
  have c6 : x1.cell? ⟨w.heap.size, 6, none⟩ = some (.int .i64 wl) := N.cell (i := 6) rfl
  have c7 : x1.cell? ⟨w.heap.size, 7, none⟩ = some (.int .i64 wh) := N.cell (i := 7) rfl
  have c8 : x1.cell? ⟨w.heap.size, 8, none⟩ = some (.int .i64 nl) := N.cell (i := 8) rfl
  have c9 : x1.cell? ⟨w.heap.size, 9, none⟩ = some (.int .i64 nh) := N.cell (i := 9) rfl
  go_wp2_with fail
  go_ret
  exact ⟨by rw [HX.out]; rfl, B⟩
set_option maxHeartbeats 8000000 in
set_option maxRecDepth 100000 in
theorem specTell_2 (nd cd v : Int) (hd kn : Bool) (wl wh nl nh : Int) (w : World) (g0 : -9223372036854775808 ≤ nd ∧ nd ≤ 9223372036854775807) (g1 : -9223372036854775808 ≤ cd ∧ cd ≤ 9223372036854775807) (g2 : -9223372036854775808 ≤ v ∧ v ≤ 9223372036854775807) (g3 : -9223372036854775808 ≤ nl ∧ nl ≤ 9223372036854775807) (g4 : -9223372036854775808 ≤ nh ∧ nh ≤ 9223372036854775807) :
    Calls Tryd.prog 42 #[.agg #[.int .i64 2, .int .i64 nd, .int .i64 cd, .int .i64 v, .bool hd, .bool kn, .int .i64 wl, .int .i64 wh, .int .i64 nl, .int .i64 nh]] w fun e w' => e = .returned (.string (tlB 2 nd cd v hd nl nh)) ∧ Below w.heap.size w w' := by
  have HX : Hid (tlB 2 nd cd v hd nl nh = if cd ≠ 0 then bsB 2 nd cd else bsB 2 nd cd) := by (show tlB 2 nd cd v hd nl nh = _; unfold tlB; rw [if_neg (by omega), if_neg (by omega)]; rfl)
  have HB : Hid (bsB 2 nd cd = nmK 2 ++ spB ++ txI nd ++ spB ++ txI cd) := rfl
  have hne : (nmK 2).toList.isEmpty = false := by decide +kernel
  have CTn := fun u => specTextOf_any nd u g0.1 g0.2
  have CTc := fun u => specTextOf_any cd u g1.1 g1.2
  have CTv := fun u => specTextOf_any v u g2.1 g2.2
  have CTi := fun u => specIvalText_any nl nh u g3.1 g3.2 g4.1 g4.2
  have zn := txI_size' nd
  have zc := txI_size' cd
  have zv := txI_size' v
  have zi := ivT_size nl nh
  have zk := nmK_size 2
  clear g0 g1 g2 g3 g4
  generalize tlB 2 nd cd v hd nl nh = X at *
  generalize bsB 2 nd cd = Y at *
  generalize txI nd = sn at *
  generalize txI cd = sc at *
  generalize txI v = sv at *
  generalize ivT nl nh = si at *
  have e1 : (⟨#[32]⟩ : ByteArray).size = 1 := rfl
  have B := Below.nw w (.cells #[.int .i64 2, .int .i64 nd, .int .i64 cd, .int .i64 v, .bool hd, .bool kn, .int .i64 wl, .int .i64 wh, .int .i64 nl, .int .i64 nh] 66)
  have N := Bo.new w #[.int .i64 2, .int .i64 nd, .int .i64 cd, .int .i64 v, .bool hd, .bool kn, .int .i64 wl, .int .i64 wh, .int .i64 nl, .int .i64 nh] 66
  have CN := fun u => specName_any 2 u
  generalize nmK 2 = nm at *
  go_enter Tryd.func42, Tryd.ntmps42
  go_upto_region 1 with fail
  generalize w.alloc (.cells #[.int .i64 2, .int .i64 nd, .int .i64 cd, .int .i64 v, .bool hd, .bool kn, .int .i64 wl, .int .i64 wh, .int .i64 nl, .int .i64 nh] 66) = x0 at *
  have c0 : x0.cell? ⟨w.heap.size, 0, none⟩ = some (.int .i64 2) := N.cell (i := 0) rfl
  have c1 : x0.cell? ⟨w.heap.size, 1, none⟩ = some (.int .i64 nd) := N.cell (i := 1) rfl
  have c2 : x0.cell? ⟨w.heap.size, 2, none⟩ = some (.int .i64 cd) := N.cell (i := 2) rfl
  have c3 : x0.cell? ⟨w.heap.size, 3, none⟩ = some (.int .i64 v) := N.cell (i := 3) rfl
  have c4 : x0.cell? ⟨w.heap.size, 4, none⟩ = some (.bool hd) := N.cell (i := 4) rfl
  have c5 : x0.cell? ⟨w.heap.size, 5, none⟩ = some (.bool kn) := N.cell (i := 5) rfl
  have c6 : x0.cell? ⟨w.heap.size, 6, none⟩ = some (.int .i64 wl) := N.cell (i := 6) rfl
  have c7 : x0.cell? ⟨w.heap.size, 7, none⟩ = some (.int .i64 wh) := N.cell (i := 7) rfl
  have c8 : x0.cell? ⟨w.heap.size, 8, none⟩ = some (.int .i64 nl) := N.cell (i := 8) rfl
  have c9 : x0.cell? ⟨w.heap.size, 9, none⟩ = some (.int .i64 nh) := N.cell (i := 9) rfl
  go_wp2_with fail
  refine (CN _).mono ?_
  rintro e x1 ⟨rfl, hb⟩
  replace N := N.below hb
  replace B := B.trans (hb.mono B.size)
  clear hb CN c0 c1 c2 c3 c4 c5 c6 c7 c8 c9
  have c0 : x1.cell? ⟨w.heap.size, 0, none⟩ = some (.int .i64 2) := N.cell (i := 0) rfl
  have c1 : x1.cell? ⟨w.heap.size, 1, none⟩ = some (.int .i64 nd) := N.cell (i := 1) rfl
  have c2 : x1.cell? ⟨w.heap.size, 2, none⟩ = some (.int .i64 cd) := N.cell (i := 2) rfl
  have c3 : x1.cell? ⟨w.heap.size, 3, none⟩ = some (.int .i64 v) := N.cell (i := 3) rfl
  have c4 : x1.cell? ⟨w.heap.size, 4, none⟩ = some (.bool hd) := N.cell (i := 4) rfl
  have c5 : x1.cell? ⟨w.heap.size, 5, none⟩ = some (.bool kn) := N.cell (i := 5) rfl
  have c6 : x1.cell? ⟨w.heap.size, 6, none⟩ = some (.int .i64 wl) := N.cell (i := 6) rfl
  have c7 : x1.cell? ⟨w.heap.size, 7, none⟩ = some (.int .i64 wh) := N.cell (i := 7) rfl
  have c8 : x1.cell? ⟨w.heap.size, 8, none⟩ = some (.int .i64 nl) := N.cell (i := 8) rfl
  have c9 : x1.cell? ⟨w.heap.size, 9, none⟩ = some (.int .i64 nh) := N.cell (i := 9) rfl
  have a1 : ¬ 9223372036854775807 < nm.size + 1 := by omega
  have a2 : ¬ 9223372036854775807 < nm.size + 1 + sn.size := by omega
  have a3 : ¬ 9223372036854775807 < nm.size + 1 + sn.size + 1 := by omega
  have a4 : ¬ 9223372036854775807 < nm.size + 1 + sn.size + 1 + sc.size := by omega
  have hlt := N.1
  have HZ : Hid ((nm ++ ⟨#[32]⟩ ++ sn ++ ⟨#[32]⟩ ++ sc : ByteArray).size ≤ 52) := by (show (nm ++ ⟨#[32]⟩ ++ sn ++ ⟨#[32]⟩ ++ sc : ByteArray).size ≤ 52; simp only [ByteArray.size_append, e1]; omega)
  clear zn zc zk
  go_upto_region 11 with fail
  have SK : Hid (∀ w', Below x1.heap.size x1 w' → (fun w' => w'.cell? ⟨w.heap.size, 1, none⟩ = some (.int .i64 nd) ∧ w'.cell? ⟨w.heap.size, 2, none⟩ = some (.int .i64 cd)) w') := fun w' h => ⟨by rw [h.cell (p := ⟨w.heap.size, 1, none⟩) hlt]; exact c1, by rw [h.cell (p := ⟨w.heap.size, 2, none⟩) hlt]; exact c2⟩
  refine wp_region_held_drew (S := (fun w' => w'.cell? ⟨w.heap.size, 1, none⟩ = some (.int .i64 nd) ∧ w'.cell? ⟨w.heap.size, 2, none⟩ = some (.int .i64 cd))) (by kernel_rfl) ?_ (fun hHeld => ?_)
  · first | exact SK.out _ XB | exact SK.out _ (Below.drew (Below.refl _ _))
  have XB : Below x1.heap.size x1 x1.drew := Below.drew (Below.refl _ _)
  generalize x1.drew = vx at *
  refine wpAnyH_take (i := 0) (v := ?_) (by rw [List.getElem?_toArray]; rfl) (by kernel_rfl) (by kernel_rfl) (by kernel_rfl) (by intro _ _ _ h; exact h) (Or.inl ⟨by rfl, ?_⟩) (by assumption) ?_
  rotate_left
  · (intro w hSw; (try dsimp only at hSw); go_simp; all_goals with_reducible rfl)
  (try simp only [Act.put, List.setIfInBounds_toArray, List.set_cons_zero, List.set_cons_succ])
  refine wpAnyH_take (i := 1) (v := ?_) (by rw [List.getElem?_toArray]; rfl) (by kernel_rfl) (by kernel_rfl) (by kernel_rfl) (by intro _ _ _ h; exact h) (Or.inl ⟨by rfl, ?_⟩) (by assumption) ?_
  rotate_left
  · (intro w hSw; (try dsimp only at hSw); go_simp; all_goals with_reducible rfl)
  (try simp only [Act.put, List.setIfInBounds_toArray, List.set_cons_zero, List.set_cons_succ])
  refine wpAnyH_take (i := 2) (v := ?_) (by rw [List.getElem?_toArray]; rfl) (by kernel_rfl) (by kernel_rfl) (by kernel_rfl) (by intro _ _ _ h; exact h) (Or.inl ⟨by rfl, ?_⟩) (by assumption) ?_
  rotate_left
  · (intro w hSw; (try dsimp only at hSw); go_simp; all_goals with_reducible rfl)
  (try simp only [Act.put, List.setIfInBounds_toArray, List.set_cons_zero, List.set_cons_succ])
  refine wpAnyH_take (i := 3) (v := ?_) (by rw [List.getElem?_toArray]; rfl) (by kernel_rfl) (by kernel_rfl) (by kernel_rfl) (by intro _ _ _ h; exact h) (Or.inl ⟨by rfl, ?_⟩) (by assumption) ?_
  rotate_left
  · (intro w hSw; (try dsimp only at hSw); go_simp; all_goals with_reducible rfl)
  (try simp only [Act.put, List.setIfInBounds_toArray, List.set_cons_zero, List.set_cons_succ])
  refine wpAnyH_take (i := 7) (v := ?_) (by rw [List.getElem?_toArray]; rfl) (by kernel_rfl) (by kernel_rfl) (by kernel_rfl) (by intro _ _ _ h; exact h) (Or.inl ⟨by rfl, ?_⟩) (by assumption) ?_
  rotate_left
  · (intro w hSw; (try dsimp only at hSw); go_simp; all_goals with_reducible rfl)
  (try simp only [Act.put, List.setIfInBounds_toArray, List.set_cons_zero, List.set_cons_succ])
  refine wpAnyH_take (i := 8) (v := ?_) (by rw [List.getElem?_toArray]; rfl) (by kernel_rfl) (by kernel_rfl) (by kernel_rfl) (by intro _ _ _ h; exact h) (Or.inl ⟨by rfl, ?_⟩) (by assumption) ?_
  rotate_left
  · (intro w hSw; (try dsimp only at hSw); go_simp; all_goals with_reducible rfl)
  (try simp only [Act.put, List.setIfInBounds_toArray, List.set_cons_zero, List.set_cons_succ])
  refine wpAnyH_ready (rs := [4]) (by kernel_rfl) (by simp) ?_
  refine AllReadyH.cons (by rw [List.getElem?_toArray]; rfl) (fun K hK => ?_) AllReadyH.nil
  go_simp
  refine (CTn _).mono ?_; rintro ee vx ⟨rfl, hbl⟩; (replace XB := XB.trans (hbl.mono XB.size)); (clear hbl)
  (try go_wp2_with fail)
  refine hK.out _ _ ?_ (fun hHeld => ?_)
  · first | exact SK.out _ XB | exact SK.out _ (Below.drew (Below.refl _ _))
  clear hK K
  (try simp only [Act.put, List.setIfInBounds_toArray, List.set_cons_zero, List.set_cons_succ])
  refine wpAnyH_take (i := 5) (v := ?_) (by rw [List.getElem?_toArray]; rfl) (by kernel_rfl) (by kernel_rfl) (by kernel_rfl) (by intro _ _ _ h; exact h) (Or.inl ⟨by rfl, ?_⟩) (by assumption) ?_
  rotate_left
  · (intro w hSw; (try dsimp only at hSw); go_simp; all_goals with_reducible rfl)
  (try simp only [Act.put, List.setIfInBounds_toArray, List.set_cons_zero, List.set_cons_succ])
  refine wpAnyH_take (i := 6) (v := ?_) (by rw [List.getElem?_toArray]; rfl) (by kernel_rfl) (by kernel_rfl) (by kernel_rfl) (by intro _ _ _ h; exact h) (Or.inl ⟨by rfl, ?_⟩) (by assumption) ?_
  rotate_left
  · (intro w hSw; (try dsimp only at hSw); go_simp; all_goals with_reducible rfl)
  (try simp only [Act.put, List.setIfInBounds_toArray, List.set_cons_zero, List.set_cons_succ])
  refine wpAnyH_ready (rs := [9]) (by kernel_rfl) (by simp) ?_
  refine AllReadyH.cons (by rw [List.getElem?_toArray]; rfl) (fun K hK => ?_) AllReadyH.nil
  go_simp
  refine (CTc _).mono ?_; rintro ee vx ⟨rfl, hbl⟩; (replace XB := XB.trans (hbl.mono XB.size)); (clear hbl)
  (try go_wp2_with fail)
  refine hK.out _ _ ?_ (fun hHeld => ?_)
  · first | exact SK.out _ XB | exact SK.out _ (Below.drew (Below.refl _ _))
  clear hK K
  (try simp only [Act.put, List.setIfInBounds_toArray, List.set_cons_zero, List.set_cons_succ])
  refine wpAnyH_take (i := 10) (v := ?_) (by rw [List.getElem?_toArray]; rfl) (by kernel_rfl) (by kernel_rfl) (by kernel_rfl) (by intro _ _ _ h; exact h) (Or.inl ⟨by rfl, ?_⟩) (by assumption) ?_
  rotate_left
  · (intro w hSw; (try dsimp only at hSw); go_simp; all_goals with_reducible rfl)
  (try simp only [Act.put, List.setIfInBounds_toArray, List.set_cons_zero, List.set_cons_succ])
  refine wpAnyH_take (i := 11) (v := ?_) (by rw [List.getElem?_toArray]; rfl) (by kernel_rfl) (by kernel_rfl) (by kernel_rfl) (by intro _ _ _ h; exact h) (Or.inl ⟨by rfl, ?_⟩) (by assumption) ?_
  rotate_left
  · (intro w hSw; (try dsimp only at hSw); go_simp; all_goals with_reducible rfl)
  (try simp only [Act.put, List.setIfInBounds_toArray, List.set_cons_zero, List.set_cons_succ])
  refine wpAnyH_done (by kernel_rfl) ?_ _
  replace N := N.below XB
  replace B := B.trans (XB.mono B.size)
  clear SK XB a1 a2 a3 a4 c0 c1 c2 c3 c4 c5 c6 c7 c8 c9 hne CTn CTc hlt
  have HO : Hid (nm ++ ⟨#[32]⟩ ++ sn ++ ⟨#[32]⟩ ++ sc = Y) := HB.out.symm
  clear HB
  generalize (nm ++ ⟨#[32]⟩ ++ sn ++ ⟨#[32]⟩ ++ sc : ByteArray) = O at *
  have hzO := HZ.out
  clear HZ
  have a5 : ¬ 9223372036854775807 < O.size + 1 := by omega
  have a6 : ¬ 9223372036854775807 < O.size + 1 + sv.size := by omega
  have a7 : ¬ 9223372036854775807 < O.size + 1 + si.size := by omega
  have a8 : ¬ 9223372036854775807 < O.size + 1 + sv.size + 6 := by omega
  have e6 : (⟨#[32, 104, 111, 108, 100, 115]⟩ : ByteArray).size = 6 := rfl
  clear zv zi hzO
  have c0 : vx.cell? ⟨w.heap.size, 0, none⟩ = some (.int .i64 2) := N.cell (i := 0) rfl
  have c1 : vx.cell? ⟨w.heap.size, 1, none⟩ = some (.int .i64 nd) := N.cell (i := 1) rfl
  have c2 : vx.cell? ⟨w.heap.size, 2, none⟩ = some (.int .i64 cd) := N.cell (i := 2) rfl
  have c3 : vx.cell? ⟨w.heap.size, 3, none⟩ = some (.int .i64 v) := N.cell (i := 3) rfl
  have c4 : vx.cell? ⟨w.heap.size, 4, none⟩ = some (.bool hd) := N.cell (i := 4) rfl
  have c5 : vx.cell? ⟨w.heap.size, 5, none⟩ = some (.bool kn) := N.cell (i := 5) rfl
  have c6 : vx.cell? ⟨w.heap.size, 6, none⟩ = some (.int .i64 wl) := N.cell (i := 6) rfl
  have c7 : vx.cell? ⟨w.heap.size, 7, none⟩ = some (.int .i64 wh) := N.cell (i := 7) rfl
  have c8 : vx.cell? ⟨w.heap.size, 8, none⟩ = some (.int .i64 nl) := N.cell (i := 8) rfl
  have c9 : vx.cell? ⟨w.heap.size, 9, none⟩ = some (.int .i64 nh) := N.cell (i := 9) rfl
  by_cases hc : cd = 0
  rotate_left
  · have hc' : (cd != 0) = true := by simp [hc]
    clear CTv CTi
    go_wp2_with fail
    go_ret
    exact ⟨by rw [HX.out, if_pos hc, ← HO.out]; rfl, B⟩
  have hc' : (cd != 0) = false := by simp [hc]
  have HX2 : Hid (X = Y) := by (show X = _; rw [HX.out, if_neg (by simp [hc])])
  clear HX hc
  clear CTv CTi
  go_wp2_with fail
  go_ret
  exact ⟨by rw [HX2.out, ← HO.out]; rfl, B⟩
set_option maxHeartbeats 8000000 in
set_option maxRecDepth 100000 in
theorem specTell_3 (nd cd v : Int) (hd kn : Bool) (wl wh nl nh : Int) (w : World) (g0 : -9223372036854775808 ≤ nd ∧ nd ≤ 9223372036854775807) (g1 : -9223372036854775808 ≤ cd ∧ cd ≤ 9223372036854775807) (g2 : -9223372036854775808 ≤ v ∧ v ≤ 9223372036854775807) (g3 : -9223372036854775808 ≤ nl ∧ nl ≤ 9223372036854775807) (g4 : -9223372036854775808 ≤ nh ∧ nh ≤ 9223372036854775807) :
    Calls Tryd.prog 42 #[.agg #[.int .i64 3, .int .i64 nd, .int .i64 cd, .int .i64 v, .bool hd, .bool kn, .int .i64 wl, .int .i64 wh, .int .i64 nl, .int .i64 nh]] w fun e w' => e = .returned (.string (tlB 3 nd cd v hd nl nh)) ∧ Below w.heap.size w w' := by
  have HX : Hid (tlB 3 nd cd v hd nl nh = if cd ≠ 0 then bsB 3 nd cd else bsB 3 nd cd) := by (show tlB 3 nd cd v hd nl nh = _; unfold tlB; rw [if_neg (by omega), if_neg (by omega)]; rfl)
  have HB : Hid (bsB 3 nd cd = nmK 3 ++ spB ++ txI nd ++ spB ++ txI cd) := rfl
  have hne : (nmK 3).toList.isEmpty = false := by decide +kernel
  have CTn := fun u => specTextOf_any nd u g0.1 g0.2
  have CTc := fun u => specTextOf_any cd u g1.1 g1.2
  have CTv := fun u => specTextOf_any v u g2.1 g2.2
  have CTi := fun u => specIvalText_any nl nh u g3.1 g3.2 g4.1 g4.2
  have zn := txI_size' nd
  have zc := txI_size' cd
  have zv := txI_size' v
  have zi := ivT_size nl nh
  have zk := nmK_size 3
  clear g0 g1 g2 g3 g4
  generalize tlB 3 nd cd v hd nl nh = X at *
  generalize bsB 3 nd cd = Y at *
  generalize txI nd = sn at *
  generalize txI cd = sc at *
  generalize txI v = sv at *
  generalize ivT nl nh = si at *
  have e1 : (⟨#[32]⟩ : ByteArray).size = 1 := rfl
  have B := Below.nw w (.cells #[.int .i64 3, .int .i64 nd, .int .i64 cd, .int .i64 v, .bool hd, .bool kn, .int .i64 wl, .int .i64 wh, .int .i64 nl, .int .i64 nh] 66)
  have N := Bo.new w #[.int .i64 3, .int .i64 nd, .int .i64 cd, .int .i64 v, .bool hd, .bool kn, .int .i64 wl, .int .i64 wh, .int .i64 nl, .int .i64 nh] 66
  have CN := fun u => specName_any 3 u
  generalize nmK 3 = nm at *
  go_enter Tryd.func42, Tryd.ntmps42
  go_upto_region 1 with fail
  generalize w.alloc (.cells #[.int .i64 3, .int .i64 nd, .int .i64 cd, .int .i64 v, .bool hd, .bool kn, .int .i64 wl, .int .i64 wh, .int .i64 nl, .int .i64 nh] 66) = x0 at *
  have c0 : x0.cell? ⟨w.heap.size, 0, none⟩ = some (.int .i64 3) := N.cell (i := 0) rfl
  have c1 : x0.cell? ⟨w.heap.size, 1, none⟩ = some (.int .i64 nd) := N.cell (i := 1) rfl
  have c2 : x0.cell? ⟨w.heap.size, 2, none⟩ = some (.int .i64 cd) := N.cell (i := 2) rfl
  have c3 : x0.cell? ⟨w.heap.size, 3, none⟩ = some (.int .i64 v) := N.cell (i := 3) rfl
  have c4 : x0.cell? ⟨w.heap.size, 4, none⟩ = some (.bool hd) := N.cell (i := 4) rfl
  have c5 : x0.cell? ⟨w.heap.size, 5, none⟩ = some (.bool kn) := N.cell (i := 5) rfl
  have c6 : x0.cell? ⟨w.heap.size, 6, none⟩ = some (.int .i64 wl) := N.cell (i := 6) rfl
  have c7 : x0.cell? ⟨w.heap.size, 7, none⟩ = some (.int .i64 wh) := N.cell (i := 7) rfl
  have c8 : x0.cell? ⟨w.heap.size, 8, none⟩ = some (.int .i64 nl) := N.cell (i := 8) rfl
  have c9 : x0.cell? ⟨w.heap.size, 9, none⟩ = some (.int .i64 nh) := N.cell (i := 9) rfl
  go_wp2_with fail
  refine (CN _).mono ?_
  rintro e x1 ⟨rfl, hb⟩
  replace N := N.below hb
  replace B := B.trans (hb.mono B.size)
  clear hb CN c0 c1 c2 c3 c4 c5 c6 c7 c8 c9
  have c0 : x1.cell? ⟨w.heap.size, 0, none⟩ = some (.int .i64 3) := N.cell (i := 0) rfl
  have c1 : x1.cell? ⟨w.heap.size, 1, none⟩ = some (.int .i64 nd) := N.cell (i := 1) rfl
  have c2 : x1.cell? ⟨w.heap.size, 2, none⟩ = some (.int .i64 cd) := N.cell (i := 2) rfl
  have c3 : x1.cell? ⟨w.heap.size, 3, none⟩ = some (.int .i64 v) := N.cell (i := 3) rfl
  have c4 : x1.cell? ⟨w.heap.size, 4, none⟩ = some (.bool hd) := N.cell (i := 4) rfl
  have c5 : x1.cell? ⟨w.heap.size, 5, none⟩ = some (.bool kn) := N.cell (i := 5) rfl
  have c6 : x1.cell? ⟨w.heap.size, 6, none⟩ = some (.int .i64 wl) := N.cell (i := 6) rfl
  have c7 : x1.cell? ⟨w.heap.size, 7, none⟩ = some (.int .i64 wh) := N.cell (i := 7) rfl
  have c8 : x1.cell? ⟨w.heap.size, 8, none⟩ = some (.int .i64 nl) := N.cell (i := 8) rfl
  have c9 : x1.cell? ⟨w.heap.size, 9, none⟩ = some (.int .i64 nh) := N.cell (i := 9) rfl
  have a1 : ¬ 9223372036854775807 < nm.size + 1 := by omega
  have a2 : ¬ 9223372036854775807 < nm.size + 1 + sn.size := by omega
  have a3 : ¬ 9223372036854775807 < nm.size + 1 + sn.size + 1 := by omega
  have a4 : ¬ 9223372036854775807 < nm.size + 1 + sn.size + 1 + sc.size := by omega
  have hlt := N.1
  have HZ : Hid ((nm ++ ⟨#[32]⟩ ++ sn ++ ⟨#[32]⟩ ++ sc : ByteArray).size ≤ 52) := by (show (nm ++ ⟨#[32]⟩ ++ sn ++ ⟨#[32]⟩ ++ sc : ByteArray).size ≤ 52; simp only [ByteArray.size_append, e1]; omega)
  clear zn zc zk
  go_upto_region 11 with fail
  have SK : Hid (∀ w', Below x1.heap.size x1 w' → (fun w' => w'.cell? ⟨w.heap.size, 1, none⟩ = some (.int .i64 nd) ∧ w'.cell? ⟨w.heap.size, 2, none⟩ = some (.int .i64 cd)) w') := fun w' h => ⟨by rw [h.cell (p := ⟨w.heap.size, 1, none⟩) hlt]; exact c1, by rw [h.cell (p := ⟨w.heap.size, 2, none⟩) hlt]; exact c2⟩
  refine wp_region_held_drew (S := (fun w' => w'.cell? ⟨w.heap.size, 1, none⟩ = some (.int .i64 nd) ∧ w'.cell? ⟨w.heap.size, 2, none⟩ = some (.int .i64 cd))) (by kernel_rfl) ?_ (fun hHeld => ?_)
  · first | exact SK.out _ XB | exact SK.out _ (Below.drew (Below.refl _ _))
  have XB : Below x1.heap.size x1 x1.drew := Below.drew (Below.refl _ _)
  generalize x1.drew = vx at *
  refine wpAnyH_take (i := 0) (v := ?_) (by rw [List.getElem?_toArray]; rfl) (by kernel_rfl) (by kernel_rfl) (by kernel_rfl) (by intro _ _ _ h; exact h) (Or.inl ⟨by rfl, ?_⟩) (by assumption) ?_
  rotate_left
  · (intro w hSw; (try dsimp only at hSw); go_simp; all_goals with_reducible rfl)
  (try simp only [Act.put, List.setIfInBounds_toArray, List.set_cons_zero, List.set_cons_succ])
  refine wpAnyH_take (i := 1) (v := ?_) (by rw [List.getElem?_toArray]; rfl) (by kernel_rfl) (by kernel_rfl) (by kernel_rfl) (by intro _ _ _ h; exact h) (Or.inl ⟨by rfl, ?_⟩) (by assumption) ?_
  rotate_left
  · (intro w hSw; (try dsimp only at hSw); go_simp; all_goals with_reducible rfl)
  (try simp only [Act.put, List.setIfInBounds_toArray, List.set_cons_zero, List.set_cons_succ])
  refine wpAnyH_take (i := 2) (v := ?_) (by rw [List.getElem?_toArray]; rfl) (by kernel_rfl) (by kernel_rfl) (by kernel_rfl) (by intro _ _ _ h; exact h) (Or.inl ⟨by rfl, ?_⟩) (by assumption) ?_
  rotate_left
  · (intro w hSw; (try dsimp only at hSw); go_simp; all_goals with_reducible rfl)
  (try simp only [Act.put, List.setIfInBounds_toArray, List.set_cons_zero, List.set_cons_succ])
  refine wpAnyH_take (i := 3) (v := ?_) (by rw [List.getElem?_toArray]; rfl) (by kernel_rfl) (by kernel_rfl) (by kernel_rfl) (by intro _ _ _ h; exact h) (Or.inl ⟨by rfl, ?_⟩) (by assumption) ?_
  rotate_left
  · (intro w hSw; (try dsimp only at hSw); go_simp; all_goals with_reducible rfl)
  (try simp only [Act.put, List.setIfInBounds_toArray, List.set_cons_zero, List.set_cons_succ])
  refine wpAnyH_take (i := 7) (v := ?_) (by rw [List.getElem?_toArray]; rfl) (by kernel_rfl) (by kernel_rfl) (by kernel_rfl) (by intro _ _ _ h; exact h) (Or.inl ⟨by rfl, ?_⟩) (by assumption) ?_
  rotate_left
  · (intro w hSw; (try dsimp only at hSw); go_simp; all_goals with_reducible rfl)
  (try simp only [Act.put, List.setIfInBounds_toArray, List.set_cons_zero, List.set_cons_succ])
  refine wpAnyH_take (i := 8) (v := ?_) (by rw [List.getElem?_toArray]; rfl) (by kernel_rfl) (by kernel_rfl) (by kernel_rfl) (by intro _ _ _ h; exact h) (Or.inl ⟨by rfl, ?_⟩) (by assumption) ?_
  rotate_left
  · (intro w hSw; (try dsimp only at hSw); go_simp; all_goals with_reducible rfl)
  (try simp only [Act.put, List.setIfInBounds_toArray, List.set_cons_zero, List.set_cons_succ])
  refine wpAnyH_ready (rs := [4]) (by kernel_rfl) (by simp) ?_
  refine AllReadyH.cons (by rw [List.getElem?_toArray]; rfl) (fun K hK => ?_) AllReadyH.nil
  go_simp
  refine (CTn _).mono ?_; rintro ee vx ⟨rfl, hbl⟩; (replace XB := XB.trans (hbl.mono XB.size)); (clear hbl)
  (try go_wp2_with fail)
  refine hK.out _ _ ?_ (fun hHeld => ?_)
  · first | exact SK.out _ XB | exact SK.out _ (Below.drew (Below.refl _ _))
  clear hK K
  (try simp only [Act.put, List.setIfInBounds_toArray, List.set_cons_zero, List.set_cons_succ])
  refine wpAnyH_take (i := 5) (v := ?_) (by rw [List.getElem?_toArray]; rfl) (by kernel_rfl) (by kernel_rfl) (by kernel_rfl) (by intro _ _ _ h; exact h) (Or.inl ⟨by rfl, ?_⟩) (by assumption) ?_
  rotate_left
  · (intro w hSw; (try dsimp only at hSw); go_simp; all_goals with_reducible rfl)
  (try simp only [Act.put, List.setIfInBounds_toArray, List.set_cons_zero, List.set_cons_succ])
  refine wpAnyH_take (i := 6) (v := ?_) (by rw [List.getElem?_toArray]; rfl) (by kernel_rfl) (by kernel_rfl) (by kernel_rfl) (by intro _ _ _ h; exact h) (Or.inl ⟨by rfl, ?_⟩) (by assumption) ?_
  rotate_left
  · (intro w hSw; (try dsimp only at hSw); go_simp; all_goals with_reducible rfl)
  (try simp only [Act.put, List.setIfInBounds_toArray, List.set_cons_zero, List.set_cons_succ])
  refine wpAnyH_ready (rs := [9]) (by kernel_rfl) (by simp) ?_
  refine AllReadyH.cons (by rw [List.getElem?_toArray]; rfl) (fun K hK => ?_) AllReadyH.nil
  go_simp
  refine (CTc _).mono ?_; rintro ee vx ⟨rfl, hbl⟩; (replace XB := XB.trans (hbl.mono XB.size)); (clear hbl)
  (try go_wp2_with fail)
  refine hK.out _ _ ?_ (fun hHeld => ?_)
  · first | exact SK.out _ XB | exact SK.out _ (Below.drew (Below.refl _ _))
  clear hK K
  (try simp only [Act.put, List.setIfInBounds_toArray, List.set_cons_zero, List.set_cons_succ])
  refine wpAnyH_take (i := 10) (v := ?_) (by rw [List.getElem?_toArray]; rfl) (by kernel_rfl) (by kernel_rfl) (by kernel_rfl) (by intro _ _ _ h; exact h) (Or.inl ⟨by rfl, ?_⟩) (by assumption) ?_
  rotate_left
  · (intro w hSw; (try dsimp only at hSw); go_simp; all_goals with_reducible rfl)
  (try simp only [Act.put, List.setIfInBounds_toArray, List.set_cons_zero, List.set_cons_succ])
  refine wpAnyH_take (i := 11) (v := ?_) (by rw [List.getElem?_toArray]; rfl) (by kernel_rfl) (by kernel_rfl) (by kernel_rfl) (by intro _ _ _ h; exact h) (Or.inl ⟨by rfl, ?_⟩) (by assumption) ?_
  rotate_left
  · (intro w hSw; (try dsimp only at hSw); go_simp; all_goals with_reducible rfl)
  (try simp only [Act.put, List.setIfInBounds_toArray, List.set_cons_zero, List.set_cons_succ])
  refine wpAnyH_done (by kernel_rfl) ?_ _
  replace N := N.below XB
  replace B := B.trans (XB.mono B.size)
  clear SK XB a1 a2 a3 a4 c0 c1 c2 c3 c4 c5 c6 c7 c8 c9 hne CTn CTc hlt
  have HO : Hid (nm ++ ⟨#[32]⟩ ++ sn ++ ⟨#[32]⟩ ++ sc = Y) := HB.out.symm
  clear HB
  generalize (nm ++ ⟨#[32]⟩ ++ sn ++ ⟨#[32]⟩ ++ sc : ByteArray) = O at *
  have hzO := HZ.out
  clear HZ
  have a5 : ¬ 9223372036854775807 < O.size + 1 := by omega
  have a6 : ¬ 9223372036854775807 < O.size + 1 + sv.size := by omega
  have a7 : ¬ 9223372036854775807 < O.size + 1 + si.size := by omega
  have a8 : ¬ 9223372036854775807 < O.size + 1 + sv.size + 6 := by omega
  have e6 : (⟨#[32, 104, 111, 108, 100, 115]⟩ : ByteArray).size = 6 := rfl
  clear zv zi hzO
  have c0 : vx.cell? ⟨w.heap.size, 0, none⟩ = some (.int .i64 3) := N.cell (i := 0) rfl
  have c1 : vx.cell? ⟨w.heap.size, 1, none⟩ = some (.int .i64 nd) := N.cell (i := 1) rfl
  have c2 : vx.cell? ⟨w.heap.size, 2, none⟩ = some (.int .i64 cd) := N.cell (i := 2) rfl
  have c3 : vx.cell? ⟨w.heap.size, 3, none⟩ = some (.int .i64 v) := N.cell (i := 3) rfl
  have c4 : vx.cell? ⟨w.heap.size, 4, none⟩ = some (.bool hd) := N.cell (i := 4) rfl
  have c5 : vx.cell? ⟨w.heap.size, 5, none⟩ = some (.bool kn) := N.cell (i := 5) rfl
  have c6 : vx.cell? ⟨w.heap.size, 6, none⟩ = some (.int .i64 wl) := N.cell (i := 6) rfl
  have c7 : vx.cell? ⟨w.heap.size, 7, none⟩ = some (.int .i64 wh) := N.cell (i := 7) rfl
  have c8 : vx.cell? ⟨w.heap.size, 8, none⟩ = some (.int .i64 nl) := N.cell (i := 8) rfl
  have c9 : vx.cell? ⟨w.heap.size, 9, none⟩ = some (.int .i64 nh) := N.cell (i := 9) rfl
  by_cases hc : cd = 0
  rotate_left
  · have hc' : (cd != 0) = true := by simp [hc]
    clear CTv CTi
    go_wp2_with fail
    go_ret
    exact ⟨by rw [HX.out, if_pos hc, ← HO.out]; rfl, B⟩
  have hc' : (cd != 0) = false := by simp [hc]
  have HX2 : Hid (X = Y) := by (show X = _; rw [HX.out, if_neg (by simp [hc])])
  clear HX hc
  clear CTv CTi
  go_wp2_with fail
  go_ret
  exact ⟨by rw [HX2.out, ← HO.out]; rfl, B⟩
set_option maxHeartbeats 8000000 in
set_option maxRecDepth 100000 in
theorem specTell_4 (nd cd v : Int) (hd kn : Bool) (wl wh nl nh : Int) (w : World) (g0 : -9223372036854775808 ≤ nd ∧ nd ≤ 9223372036854775807) (g1 : -9223372036854775808 ≤ cd ∧ cd ≤ 9223372036854775807) (g2 : -9223372036854775808 ≤ v ∧ v ≤ 9223372036854775807) (g3 : -9223372036854775808 ≤ nl ∧ nl ≤ 9223372036854775807) (g4 : -9223372036854775808 ≤ nh ∧ nh ≤ 9223372036854775807) :
    Calls Tryd.prog 42 #[.agg #[.int .i64 4, .int .i64 nd, .int .i64 cd, .int .i64 v, .bool hd, .bool kn, .int .i64 wl, .int .i64 wh, .int .i64 nl, .int .i64 nh]] w fun e w' => e = .returned (.string (tlB 4 nd cd v hd nl nh)) ∧ Below w.heap.size w w' := by
  have HX : Hid (tlB 4 nd cd v hd nl nh = if cd ≠ 0 then bsB 4 nd cd else bsB 4 nd cd) := by (show tlB 4 nd cd v hd nl nh = _; unfold tlB; rw [if_neg (by omega), if_neg (by omega)]; rfl)
  have HB : Hid (bsB 4 nd cd = nmK 4 ++ spB ++ txI nd ++ spB ++ txI cd) := rfl
  have hne : (nmK 4).toList.isEmpty = false := by decide +kernel
  have CTn := fun u => specTextOf_any nd u g0.1 g0.2
  have CTc := fun u => specTextOf_any cd u g1.1 g1.2
  have CTv := fun u => specTextOf_any v u g2.1 g2.2
  have CTi := fun u => specIvalText_any nl nh u g3.1 g3.2 g4.1 g4.2
  have zn := txI_size' nd
  have zc := txI_size' cd
  have zv := txI_size' v
  have zi := ivT_size nl nh
  have zk := nmK_size 4
  clear g0 g1 g2 g3 g4
  generalize tlB 4 nd cd v hd nl nh = X at *
  generalize bsB 4 nd cd = Y at *
  generalize txI nd = sn at *
  generalize txI cd = sc at *
  generalize txI v = sv at *
  generalize ivT nl nh = si at *
  have e1 : (⟨#[32]⟩ : ByteArray).size = 1 := rfl
  have B := Below.nw w (.cells #[.int .i64 4, .int .i64 nd, .int .i64 cd, .int .i64 v, .bool hd, .bool kn, .int .i64 wl, .int .i64 wh, .int .i64 nl, .int .i64 nh] 66)
  have N := Bo.new w #[.int .i64 4, .int .i64 nd, .int .i64 cd, .int .i64 v, .bool hd, .bool kn, .int .i64 wl, .int .i64 wh, .int .i64 nl, .int .i64 nh] 66
  have CN := fun u => specName_any 4 u
  generalize nmK 4 = nm at *
  go_enter Tryd.func42, Tryd.ntmps42
  go_upto_region 1 with fail
  generalize w.alloc (.cells #[.int .i64 4, .int .i64 nd, .int .i64 cd, .int .i64 v, .bool hd, .bool kn, .int .i64 wl, .int .i64 wh, .int .i64 nl, .int .i64 nh] 66) = x0 at *
  have c0 : x0.cell? ⟨w.heap.size, 0, none⟩ = some (.int .i64 4) := N.cell (i := 0) rfl
  have c1 : x0.cell? ⟨w.heap.size, 1, none⟩ = some (.int .i64 nd) := N.cell (i := 1) rfl
  have c2 : x0.cell? ⟨w.heap.size, 2, none⟩ = some (.int .i64 cd) := N.cell (i := 2) rfl
  have c3 : x0.cell? ⟨w.heap.size, 3, none⟩ = some (.int .i64 v) := N.cell (i := 3) rfl
  have c4 : x0.cell? ⟨w.heap.size, 4, none⟩ = some (.bool hd) := N.cell (i := 4) rfl
  have c5 : x0.cell? ⟨w.heap.size, 5, none⟩ = some (.bool kn) := N.cell (i := 5) rfl
  have c6 : x0.cell? ⟨w.heap.size, 6, none⟩ = some (.int .i64 wl) := N.cell (i := 6) rfl
  have c7 : x0.cell? ⟨w.heap.size, 7, none⟩ = some (.int .i64 wh) := N.cell (i := 7) rfl
  have c8 : x0.cell? ⟨w.heap.size, 8, none⟩ = some (.int .i64 nl) := N.cell (i := 8) rfl
  have c9 : x0.cell? ⟨w.heap.size, 9, none⟩ = some (.int .i64 nh) := N.cell (i := 9) rfl
  go_wp2_with fail
  refine (CN _).mono ?_
  rintro e x1 ⟨rfl, hb⟩
  replace N := N.below hb
  replace B := B.trans (hb.mono B.size)
  clear hb CN c0 c1 c2 c3 c4 c5 c6 c7 c8 c9
  have c0 : x1.cell? ⟨w.heap.size, 0, none⟩ = some (.int .i64 4) := N.cell (i := 0) rfl
  have c1 : x1.cell? ⟨w.heap.size, 1, none⟩ = some (.int .i64 nd) := N.cell (i := 1) rfl
  have c2 : x1.cell? ⟨w.heap.size, 2, none⟩ = some (.int .i64 cd) := N.cell (i := 2) rfl
  have c3 : x1.cell? ⟨w.heap.size, 3, none⟩ = some (.int .i64 v) := N.cell (i := 3) rfl
  have c4 : x1.cell? ⟨w.heap.size, 4, none⟩ = some (.bool hd) := N.cell (i := 4) rfl
  have c5 : x1.cell? ⟨w.heap.size, 5, none⟩ = some (.bool kn) := N.cell (i := 5) rfl
  have c6 : x1.cell? ⟨w.heap.size, 6, none⟩ = some (.int .i64 wl) := N.cell (i := 6) rfl
  have c7 : x1.cell? ⟨w.heap.size, 7, none⟩ = some (.int .i64 wh) := N.cell (i := 7) rfl
  have c8 : x1.cell? ⟨w.heap.size, 8, none⟩ = some (.int .i64 nl) := N.cell (i := 8) rfl
  have c9 : x1.cell? ⟨w.heap.size, 9, none⟩ = some (.int .i64 nh) := N.cell (i := 9) rfl
  have a1 : ¬ 9223372036854775807 < nm.size + 1 := by omega
  have a2 : ¬ 9223372036854775807 < nm.size + 1 + sn.size := by omega
  have a3 : ¬ 9223372036854775807 < nm.size + 1 + sn.size + 1 := by omega
  have a4 : ¬ 9223372036854775807 < nm.size + 1 + sn.size + 1 + sc.size := by omega
  have hlt := N.1
  have HZ : Hid ((nm ++ ⟨#[32]⟩ ++ sn ++ ⟨#[32]⟩ ++ sc : ByteArray).size ≤ 52) := by (show (nm ++ ⟨#[32]⟩ ++ sn ++ ⟨#[32]⟩ ++ sc : ByteArray).size ≤ 52; simp only [ByteArray.size_append, e1]; omega)
  clear zn zc zk
  go_upto_region 11 with fail
  have SK : Hid (∀ w', Below x1.heap.size x1 w' → (fun w' => w'.cell? ⟨w.heap.size, 1, none⟩ = some (.int .i64 nd) ∧ w'.cell? ⟨w.heap.size, 2, none⟩ = some (.int .i64 cd)) w') := fun w' h => ⟨by rw [h.cell (p := ⟨w.heap.size, 1, none⟩) hlt]; exact c1, by rw [h.cell (p := ⟨w.heap.size, 2, none⟩) hlt]; exact c2⟩
  refine wp_region_held_drew (S := (fun w' => w'.cell? ⟨w.heap.size, 1, none⟩ = some (.int .i64 nd) ∧ w'.cell? ⟨w.heap.size, 2, none⟩ = some (.int .i64 cd))) (by kernel_rfl) ?_ (fun hHeld => ?_)
  · first | exact SK.out _ XB | exact SK.out _ (Below.drew (Below.refl _ _))
  have XB : Below x1.heap.size x1 x1.drew := Below.drew (Below.refl _ _)
  generalize x1.drew = vx at *
  refine wpAnyH_take (i := 0) (v := ?_) (by rw [List.getElem?_toArray]; rfl) (by kernel_rfl) (by kernel_rfl) (by kernel_rfl) (by intro _ _ _ h; exact h) (Or.inl ⟨by rfl, ?_⟩) (by assumption) ?_
  rotate_left
  · (intro w hSw; (try dsimp only at hSw); go_simp; all_goals with_reducible rfl)
  (try simp only [Act.put, List.setIfInBounds_toArray, List.set_cons_zero, List.set_cons_succ])
  refine wpAnyH_take (i := 1) (v := ?_) (by rw [List.getElem?_toArray]; rfl) (by kernel_rfl) (by kernel_rfl) (by kernel_rfl) (by intro _ _ _ h; exact h) (Or.inl ⟨by rfl, ?_⟩) (by assumption) ?_
  rotate_left
  · (intro w hSw; (try dsimp only at hSw); go_simp; all_goals with_reducible rfl)
  (try simp only [Act.put, List.setIfInBounds_toArray, List.set_cons_zero, List.set_cons_succ])
  refine wpAnyH_take (i := 2) (v := ?_) (by rw [List.getElem?_toArray]; rfl) (by kernel_rfl) (by kernel_rfl) (by kernel_rfl) (by intro _ _ _ h; exact h) (Or.inl ⟨by rfl, ?_⟩) (by assumption) ?_
  rotate_left
  · (intro w hSw; (try dsimp only at hSw); go_simp; all_goals with_reducible rfl)
  (try simp only [Act.put, List.setIfInBounds_toArray, List.set_cons_zero, List.set_cons_succ])
  refine wpAnyH_take (i := 3) (v := ?_) (by rw [List.getElem?_toArray]; rfl) (by kernel_rfl) (by kernel_rfl) (by kernel_rfl) (by intro _ _ _ h; exact h) (Or.inl ⟨by rfl, ?_⟩) (by assumption) ?_
  rotate_left
  · (intro w hSw; (try dsimp only at hSw); go_simp; all_goals with_reducible rfl)
  (try simp only [Act.put, List.setIfInBounds_toArray, List.set_cons_zero, List.set_cons_succ])
  refine wpAnyH_take (i := 7) (v := ?_) (by rw [List.getElem?_toArray]; rfl) (by kernel_rfl) (by kernel_rfl) (by kernel_rfl) (by intro _ _ _ h; exact h) (Or.inl ⟨by rfl, ?_⟩) (by assumption) ?_
  rotate_left
  · (intro w hSw; (try dsimp only at hSw); go_simp; all_goals with_reducible rfl)
  (try simp only [Act.put, List.setIfInBounds_toArray, List.set_cons_zero, List.set_cons_succ])
  refine wpAnyH_take (i := 8) (v := ?_) (by rw [List.getElem?_toArray]; rfl) (by kernel_rfl) (by kernel_rfl) (by kernel_rfl) (by intro _ _ _ h; exact h) (Or.inl ⟨by rfl, ?_⟩) (by assumption) ?_
  rotate_left
  · (intro w hSw; (try dsimp only at hSw); go_simp; all_goals with_reducible rfl)
  (try simp only [Act.put, List.setIfInBounds_toArray, List.set_cons_zero, List.set_cons_succ])
  refine wpAnyH_ready (rs := [4]) (by kernel_rfl) (by simp) ?_
  refine AllReadyH.cons (by rw [List.getElem?_toArray]; rfl) (fun K hK => ?_) AllReadyH.nil
  go_simp
  refine (CTn _).mono ?_; rintro ee vx ⟨rfl, hbl⟩; (replace XB := XB.trans (hbl.mono XB.size)); (clear hbl)
  (try go_wp2_with fail)
  refine hK.out _ _ ?_ (fun hHeld => ?_)
  · first | exact SK.out _ XB | exact SK.out _ (Below.drew (Below.refl _ _))
  clear hK K
  (try simp only [Act.put, List.setIfInBounds_toArray, List.set_cons_zero, List.set_cons_succ])
  refine wpAnyH_take (i := 5) (v := ?_) (by rw [List.getElem?_toArray]; rfl) (by kernel_rfl) (by kernel_rfl) (by kernel_rfl) (by intro _ _ _ h; exact h) (Or.inl ⟨by rfl, ?_⟩) (by assumption) ?_
  rotate_left
  · (intro w hSw; (try dsimp only at hSw); go_simp; all_goals with_reducible rfl)
  (try simp only [Act.put, List.setIfInBounds_toArray, List.set_cons_zero, List.set_cons_succ])
  refine wpAnyH_take (i := 6) (v := ?_) (by rw [List.getElem?_toArray]; rfl) (by kernel_rfl) (by kernel_rfl) (by kernel_rfl) (by intro _ _ _ h; exact h) (Or.inl ⟨by rfl, ?_⟩) (by assumption) ?_
  rotate_left
  · (intro w hSw; (try dsimp only at hSw); go_simp; all_goals with_reducible rfl)
  (try simp only [Act.put, List.setIfInBounds_toArray, List.set_cons_zero, List.set_cons_succ])
  refine wpAnyH_ready (rs := [9]) (by kernel_rfl) (by simp) ?_
  refine AllReadyH.cons (by rw [List.getElem?_toArray]; rfl) (fun K hK => ?_) AllReadyH.nil
  go_simp
  refine (CTc _).mono ?_; rintro ee vx ⟨rfl, hbl⟩; (replace XB := XB.trans (hbl.mono XB.size)); (clear hbl)
  (try go_wp2_with fail)
  refine hK.out _ _ ?_ (fun hHeld => ?_)
  · first | exact SK.out _ XB | exact SK.out _ (Below.drew (Below.refl _ _))
  clear hK K
  (try simp only [Act.put, List.setIfInBounds_toArray, List.set_cons_zero, List.set_cons_succ])
  refine wpAnyH_take (i := 10) (v := ?_) (by rw [List.getElem?_toArray]; rfl) (by kernel_rfl) (by kernel_rfl) (by kernel_rfl) (by intro _ _ _ h; exact h) (Or.inl ⟨by rfl, ?_⟩) (by assumption) ?_
  rotate_left
  · (intro w hSw; (try dsimp only at hSw); go_simp; all_goals with_reducible rfl)
  (try simp only [Act.put, List.setIfInBounds_toArray, List.set_cons_zero, List.set_cons_succ])
  refine wpAnyH_take (i := 11) (v := ?_) (by rw [List.getElem?_toArray]; rfl) (by kernel_rfl) (by kernel_rfl) (by kernel_rfl) (by intro _ _ _ h; exact h) (Or.inl ⟨by rfl, ?_⟩) (by assumption) ?_
  rotate_left
  · (intro w hSw; (try dsimp only at hSw); go_simp; all_goals with_reducible rfl)
  (try simp only [Act.put, List.setIfInBounds_toArray, List.set_cons_zero, List.set_cons_succ])
  refine wpAnyH_done (by kernel_rfl) ?_ _
  replace N := N.below XB
  replace B := B.trans (XB.mono B.size)
  clear SK XB a1 a2 a3 a4 c0 c1 c2 c3 c4 c5 c6 c7 c8 c9 hne CTn CTc hlt
  have HO : Hid (nm ++ ⟨#[32]⟩ ++ sn ++ ⟨#[32]⟩ ++ sc = Y) := HB.out.symm
  clear HB
  generalize (nm ++ ⟨#[32]⟩ ++ sn ++ ⟨#[32]⟩ ++ sc : ByteArray) = O at *
  have hzO := HZ.out
  clear HZ
  have a5 : ¬ 9223372036854775807 < O.size + 1 := by omega
  have a6 : ¬ 9223372036854775807 < O.size + 1 + sv.size := by omega
  have a7 : ¬ 9223372036854775807 < O.size + 1 + si.size := by omega
  have a8 : ¬ 9223372036854775807 < O.size + 1 + sv.size + 6 := by omega
  have e6 : (⟨#[32, 104, 111, 108, 100, 115]⟩ : ByteArray).size = 6 := rfl
  clear zv zi hzO
  have c0 : vx.cell? ⟨w.heap.size, 0, none⟩ = some (.int .i64 4) := N.cell (i := 0) rfl
  have c1 : vx.cell? ⟨w.heap.size, 1, none⟩ = some (.int .i64 nd) := N.cell (i := 1) rfl
  have c2 : vx.cell? ⟨w.heap.size, 2, none⟩ = some (.int .i64 cd) := N.cell (i := 2) rfl
  have c3 : vx.cell? ⟨w.heap.size, 3, none⟩ = some (.int .i64 v) := N.cell (i := 3) rfl
  have c4 : vx.cell? ⟨w.heap.size, 4, none⟩ = some (.bool hd) := N.cell (i := 4) rfl
  have c5 : vx.cell? ⟨w.heap.size, 5, none⟩ = some (.bool kn) := N.cell (i := 5) rfl
  have c6 : vx.cell? ⟨w.heap.size, 6, none⟩ = some (.int .i64 wl) := N.cell (i := 6) rfl
  have c7 : vx.cell? ⟨w.heap.size, 7, none⟩ = some (.int .i64 wh) := N.cell (i := 7) rfl
  have c8 : vx.cell? ⟨w.heap.size, 8, none⟩ = some (.int .i64 nl) := N.cell (i := 8) rfl
  have c9 : vx.cell? ⟨w.heap.size, 9, none⟩ = some (.int .i64 nh) := N.cell (i := 9) rfl
  by_cases hc : cd = 0
  rotate_left
  · have hc' : (cd != 0) = true := by simp [hc]
    clear CTv CTi
    go_wp2_with fail
    go_ret
    exact ⟨by rw [HX.out, if_pos hc, ← HO.out]; rfl, B⟩
  have hc' : (cd != 0) = false := by simp [hc]
  have HX2 : Hid (X = Y) := by (show X = _; rw [HX.out, if_neg (by simp [hc])])
  clear HX hc
  clear CTv CTi
  go_wp2_with fail
  go_ret
  exact ⟨by rw [HX2.out, ← HO.out]; rfl, B⟩
set_option maxHeartbeats 8000000 in
set_option maxRecDepth 100000 in
theorem specTell_5 (nd cd v : Int) (hd kn : Bool) (wl wh nl nh : Int) (w : World) (g0 : -9223372036854775808 ≤ nd ∧ nd ≤ 9223372036854775807) (g1 : -9223372036854775808 ≤ cd ∧ cd ≤ 9223372036854775807) (g2 : -9223372036854775808 ≤ v ∧ v ≤ 9223372036854775807) (g3 : -9223372036854775808 ≤ nl ∧ nl ≤ 9223372036854775807) (g4 : -9223372036854775808 ≤ nh ∧ nh ≤ 9223372036854775807) :
    Calls Tryd.prog 42 #[.agg #[.int .i64 5, .int .i64 nd, .int .i64 cd, .int .i64 v, .bool hd, .bool kn, .int .i64 wl, .int .i64 wh, .int .i64 nl, .int .i64 nh]] w fun e w' => e = .returned (.string (tlB 5 nd cd v hd nl nh)) ∧ Below w.heap.size w w' := by
  have HX : Hid (tlB 5 nd cd v hd nl nh = if cd ≠ 0 then bsB 5 nd cd else bsB 5 nd cd ++ spB ++ txI v) := by (show tlB 5 nd cd v hd nl nh = _; unfold tlB; rw [if_neg (by omega), if_neg (by omega)]; rfl)
  have HB : Hid (bsB 5 nd cd = nmK 5 ++ spB ++ txI nd ++ spB ++ txI cd) := rfl
  have hne : (nmK 5).toList.isEmpty = false := by decide +kernel
  have CTn := fun u => specTextOf_any nd u g0.1 g0.2
  have CTc := fun u => specTextOf_any cd u g1.1 g1.2
  have CTv := fun u => specTextOf_any v u g2.1 g2.2
  have CTi := fun u => specIvalText_any nl nh u g3.1 g3.2 g4.1 g4.2
  have zn := txI_size' nd
  have zc := txI_size' cd
  have zv := txI_size' v
  have zi := ivT_size nl nh
  have zk := nmK_size 5
  clear g0 g1 g2 g3 g4
  generalize tlB 5 nd cd v hd nl nh = X at *
  generalize bsB 5 nd cd = Y at *
  generalize txI nd = sn at *
  generalize txI cd = sc at *
  generalize txI v = sv at *
  generalize ivT nl nh = si at *
  have e1 : (⟨#[32]⟩ : ByteArray).size = 1 := rfl
  have B := Below.nw w (.cells #[.int .i64 5, .int .i64 nd, .int .i64 cd, .int .i64 v, .bool hd, .bool kn, .int .i64 wl, .int .i64 wh, .int .i64 nl, .int .i64 nh] 66)
  have N := Bo.new w #[.int .i64 5, .int .i64 nd, .int .i64 cd, .int .i64 v, .bool hd, .bool kn, .int .i64 wl, .int .i64 wh, .int .i64 nl, .int .i64 nh] 66
  have CN := fun u => specName_any 5 u
  generalize nmK 5 = nm at *
  go_enter Tryd.func42, Tryd.ntmps42
  go_upto_region 1 with fail
  generalize w.alloc (.cells #[.int .i64 5, .int .i64 nd, .int .i64 cd, .int .i64 v, .bool hd, .bool kn, .int .i64 wl, .int .i64 wh, .int .i64 nl, .int .i64 nh] 66) = x0 at *
  have c0 : x0.cell? ⟨w.heap.size, 0, none⟩ = some (.int .i64 5) := N.cell (i := 0) rfl
  have c1 : x0.cell? ⟨w.heap.size, 1, none⟩ = some (.int .i64 nd) := N.cell (i := 1) rfl
  have c2 : x0.cell? ⟨w.heap.size, 2, none⟩ = some (.int .i64 cd) := N.cell (i := 2) rfl
  have c3 : x0.cell? ⟨w.heap.size, 3, none⟩ = some (.int .i64 v) := N.cell (i := 3) rfl
  have c4 : x0.cell? ⟨w.heap.size, 4, none⟩ = some (.bool hd) := N.cell (i := 4) rfl
  have c5 : x0.cell? ⟨w.heap.size, 5, none⟩ = some (.bool kn) := N.cell (i := 5) rfl
  have c6 : x0.cell? ⟨w.heap.size, 6, none⟩ = some (.int .i64 wl) := N.cell (i := 6) rfl
  have c7 : x0.cell? ⟨w.heap.size, 7, none⟩ = some (.int .i64 wh) := N.cell (i := 7) rfl
  have c8 : x0.cell? ⟨w.heap.size, 8, none⟩ = some (.int .i64 nl) := N.cell (i := 8) rfl
  have c9 : x0.cell? ⟨w.heap.size, 9, none⟩ = some (.int .i64 nh) := N.cell (i := 9) rfl
  go_wp2_with fail
  refine (CN _).mono ?_
  rintro e x1 ⟨rfl, hb⟩
  replace N := N.below hb
  replace B := B.trans (hb.mono B.size)
  clear hb CN c0 c1 c2 c3 c4 c5 c6 c7 c8 c9
  have c0 : x1.cell? ⟨w.heap.size, 0, none⟩ = some (.int .i64 5) := N.cell (i := 0) rfl
  have c1 : x1.cell? ⟨w.heap.size, 1, none⟩ = some (.int .i64 nd) := N.cell (i := 1) rfl
  have c2 : x1.cell? ⟨w.heap.size, 2, none⟩ = some (.int .i64 cd) := N.cell (i := 2) rfl
  have c3 : x1.cell? ⟨w.heap.size, 3, none⟩ = some (.int .i64 v) := N.cell (i := 3) rfl
  have c4 : x1.cell? ⟨w.heap.size, 4, none⟩ = some (.bool hd) := N.cell (i := 4) rfl
  have c5 : x1.cell? ⟨w.heap.size, 5, none⟩ = some (.bool kn) := N.cell (i := 5) rfl
  have c6 : x1.cell? ⟨w.heap.size, 6, none⟩ = some (.int .i64 wl) := N.cell (i := 6) rfl
  have c7 : x1.cell? ⟨w.heap.size, 7, none⟩ = some (.int .i64 wh) := N.cell (i := 7) rfl
  have c8 : x1.cell? ⟨w.heap.size, 8, none⟩ = some (.int .i64 nl) := N.cell (i := 8) rfl
  have c9 : x1.cell? ⟨w.heap.size, 9, none⟩ = some (.int .i64 nh) := N.cell (i := 9) rfl
  have a1 : ¬ 9223372036854775807 < nm.size + 1 := by omega
  have a2 : ¬ 9223372036854775807 < nm.size + 1 + sn.size := by omega
  have a3 : ¬ 9223372036854775807 < nm.size + 1 + sn.size + 1 := by omega
  have a4 : ¬ 9223372036854775807 < nm.size + 1 + sn.size + 1 + sc.size := by omega
  have hlt := N.1
  have HZ : Hid ((nm ++ ⟨#[32]⟩ ++ sn ++ ⟨#[32]⟩ ++ sc : ByteArray).size ≤ 52) := by (show (nm ++ ⟨#[32]⟩ ++ sn ++ ⟨#[32]⟩ ++ sc : ByteArray).size ≤ 52; simp only [ByteArray.size_append, e1]; omega)
  clear zn zc zk
  go_upto_region 11 with fail
  have SK : Hid (∀ w', Below x1.heap.size x1 w' → (fun w' => w'.cell? ⟨w.heap.size, 1, none⟩ = some (.int .i64 nd) ∧ w'.cell? ⟨w.heap.size, 2, none⟩ = some (.int .i64 cd)) w') := fun w' h => ⟨by rw [h.cell (p := ⟨w.heap.size, 1, none⟩) hlt]; exact c1, by rw [h.cell (p := ⟨w.heap.size, 2, none⟩) hlt]; exact c2⟩
  refine wp_region_held_drew (S := (fun w' => w'.cell? ⟨w.heap.size, 1, none⟩ = some (.int .i64 nd) ∧ w'.cell? ⟨w.heap.size, 2, none⟩ = some (.int .i64 cd))) (by kernel_rfl) ?_ (fun hHeld => ?_)
  · first | exact SK.out _ XB | exact SK.out _ (Below.drew (Below.refl _ _))
  have XB : Below x1.heap.size x1 x1.drew := Below.drew (Below.refl _ _)
  generalize x1.drew = vx at *
  refine wpAnyH_take (i := 0) (v := ?_) (by rw [List.getElem?_toArray]; rfl) (by kernel_rfl) (by kernel_rfl) (by kernel_rfl) (by intro _ _ _ h; exact h) (Or.inl ⟨by rfl, ?_⟩) (by assumption) ?_
  rotate_left
  · (intro w hSw; (try dsimp only at hSw); go_simp; all_goals with_reducible rfl)
  (try simp only [Act.put, List.setIfInBounds_toArray, List.set_cons_zero, List.set_cons_succ])
  refine wpAnyH_take (i := 1) (v := ?_) (by rw [List.getElem?_toArray]; rfl) (by kernel_rfl) (by kernel_rfl) (by kernel_rfl) (by intro _ _ _ h; exact h) (Or.inl ⟨by rfl, ?_⟩) (by assumption) ?_
  rotate_left
  · (intro w hSw; (try dsimp only at hSw); go_simp; all_goals with_reducible rfl)
  (try simp only [Act.put, List.setIfInBounds_toArray, List.set_cons_zero, List.set_cons_succ])
  refine wpAnyH_take (i := 2) (v := ?_) (by rw [List.getElem?_toArray]; rfl) (by kernel_rfl) (by kernel_rfl) (by kernel_rfl) (by intro _ _ _ h; exact h) (Or.inl ⟨by rfl, ?_⟩) (by assumption) ?_
  rotate_left
  · (intro w hSw; (try dsimp only at hSw); go_simp; all_goals with_reducible rfl)
  (try simp only [Act.put, List.setIfInBounds_toArray, List.set_cons_zero, List.set_cons_succ])
  refine wpAnyH_take (i := 3) (v := ?_) (by rw [List.getElem?_toArray]; rfl) (by kernel_rfl) (by kernel_rfl) (by kernel_rfl) (by intro _ _ _ h; exact h) (Or.inl ⟨by rfl, ?_⟩) (by assumption) ?_
  rotate_left
  · (intro w hSw; (try dsimp only at hSw); go_simp; all_goals with_reducible rfl)
  (try simp only [Act.put, List.setIfInBounds_toArray, List.set_cons_zero, List.set_cons_succ])
  refine wpAnyH_take (i := 7) (v := ?_) (by rw [List.getElem?_toArray]; rfl) (by kernel_rfl) (by kernel_rfl) (by kernel_rfl) (by intro _ _ _ h; exact h) (Or.inl ⟨by rfl, ?_⟩) (by assumption) ?_
  rotate_left
  · (intro w hSw; (try dsimp only at hSw); go_simp; all_goals with_reducible rfl)
  (try simp only [Act.put, List.setIfInBounds_toArray, List.set_cons_zero, List.set_cons_succ])
  refine wpAnyH_take (i := 8) (v := ?_) (by rw [List.getElem?_toArray]; rfl) (by kernel_rfl) (by kernel_rfl) (by kernel_rfl) (by intro _ _ _ h; exact h) (Or.inl ⟨by rfl, ?_⟩) (by assumption) ?_
  rotate_left
  · (intro w hSw; (try dsimp only at hSw); go_simp; all_goals with_reducible rfl)
  (try simp only [Act.put, List.setIfInBounds_toArray, List.set_cons_zero, List.set_cons_succ])
  refine wpAnyH_ready (rs := [4]) (by kernel_rfl) (by simp) ?_
  refine AllReadyH.cons (by rw [List.getElem?_toArray]; rfl) (fun K hK => ?_) AllReadyH.nil
  go_simp
  refine (CTn _).mono ?_; rintro ee vx ⟨rfl, hbl⟩; (replace XB := XB.trans (hbl.mono XB.size)); (clear hbl)
  (try go_wp2_with fail)
  refine hK.out _ _ ?_ (fun hHeld => ?_)
  · first | exact SK.out _ XB | exact SK.out _ (Below.drew (Below.refl _ _))
  clear hK K
  (try simp only [Act.put, List.setIfInBounds_toArray, List.set_cons_zero, List.set_cons_succ])
  refine wpAnyH_take (i := 5) (v := ?_) (by rw [List.getElem?_toArray]; rfl) (by kernel_rfl) (by kernel_rfl) (by kernel_rfl) (by intro _ _ _ h; exact h) (Or.inl ⟨by rfl, ?_⟩) (by assumption) ?_
  rotate_left
  · (intro w hSw; (try dsimp only at hSw); go_simp; all_goals with_reducible rfl)
  (try simp only [Act.put, List.setIfInBounds_toArray, List.set_cons_zero, List.set_cons_succ])
  refine wpAnyH_take (i := 6) (v := ?_) (by rw [List.getElem?_toArray]; rfl) (by kernel_rfl) (by kernel_rfl) (by kernel_rfl) (by intro _ _ _ h; exact h) (Or.inl ⟨by rfl, ?_⟩) (by assumption) ?_
  rotate_left
  · (intro w hSw; (try dsimp only at hSw); go_simp; all_goals with_reducible rfl)
  (try simp only [Act.put, List.setIfInBounds_toArray, List.set_cons_zero, List.set_cons_succ])
  refine wpAnyH_ready (rs := [9]) (by kernel_rfl) (by simp) ?_
  refine AllReadyH.cons (by rw [List.getElem?_toArray]; rfl) (fun K hK => ?_) AllReadyH.nil
  go_simp
  refine (CTc _).mono ?_; rintro ee vx ⟨rfl, hbl⟩; (replace XB := XB.trans (hbl.mono XB.size)); (clear hbl)
  (try go_wp2_with fail)
  refine hK.out _ _ ?_ (fun hHeld => ?_)
  · first | exact SK.out _ XB | exact SK.out _ (Below.drew (Below.refl _ _))
  clear hK K
  (try simp only [Act.put, List.setIfInBounds_toArray, List.set_cons_zero, List.set_cons_succ])
  refine wpAnyH_take (i := 10) (v := ?_) (by rw [List.getElem?_toArray]; rfl) (by kernel_rfl) (by kernel_rfl) (by kernel_rfl) (by intro _ _ _ h; exact h) (Or.inl ⟨by rfl, ?_⟩) (by assumption) ?_
  rotate_left
  · (intro w hSw; (try dsimp only at hSw); go_simp; all_goals with_reducible rfl)
  (try simp only [Act.put, List.setIfInBounds_toArray, List.set_cons_zero, List.set_cons_succ])
  refine wpAnyH_take (i := 11) (v := ?_) (by rw [List.getElem?_toArray]; rfl) (by kernel_rfl) (by kernel_rfl) (by kernel_rfl) (by intro _ _ _ h; exact h) (Or.inl ⟨by rfl, ?_⟩) (by assumption) ?_
  rotate_left
  · (intro w hSw; (try dsimp only at hSw); go_simp; all_goals with_reducible rfl)
  (try simp only [Act.put, List.setIfInBounds_toArray, List.set_cons_zero, List.set_cons_succ])
  refine wpAnyH_done (by kernel_rfl) ?_ _
  replace N := N.below XB
  replace B := B.trans (XB.mono B.size)
  clear SK XB a1 a2 a3 a4 c0 c1 c2 c3 c4 c5 c6 c7 c8 c9 hne CTn CTc hlt
  have HO : Hid (nm ++ ⟨#[32]⟩ ++ sn ++ ⟨#[32]⟩ ++ sc = Y) := HB.out.symm
  clear HB
  generalize (nm ++ ⟨#[32]⟩ ++ sn ++ ⟨#[32]⟩ ++ sc : ByteArray) = O at *
  have hzO := HZ.out
  clear HZ
  have a5 : ¬ 9223372036854775807 < O.size + 1 := by omega
  have a6 : ¬ 9223372036854775807 < O.size + 1 + sv.size := by omega
  have a7 : ¬ 9223372036854775807 < O.size + 1 + si.size := by omega
  have a8 : ¬ 9223372036854775807 < O.size + 1 + sv.size + 6 := by omega
  have e6 : (⟨#[32, 104, 111, 108, 100, 115]⟩ : ByteArray).size = 6 := rfl
  clear zv zi hzO
  have c0 : vx.cell? ⟨w.heap.size, 0, none⟩ = some (.int .i64 5) := N.cell (i := 0) rfl
  have c1 : vx.cell? ⟨w.heap.size, 1, none⟩ = some (.int .i64 nd) := N.cell (i := 1) rfl
  have c2 : vx.cell? ⟨w.heap.size, 2, none⟩ = some (.int .i64 cd) := N.cell (i := 2) rfl
  have c3 : vx.cell? ⟨w.heap.size, 3, none⟩ = some (.int .i64 v) := N.cell (i := 3) rfl
  have c4 : vx.cell? ⟨w.heap.size, 4, none⟩ = some (.bool hd) := N.cell (i := 4) rfl
  have c5 : vx.cell? ⟨w.heap.size, 5, none⟩ = some (.bool kn) := N.cell (i := 5) rfl
  have c6 : vx.cell? ⟨w.heap.size, 6, none⟩ = some (.int .i64 wl) := N.cell (i := 6) rfl
  have c7 : vx.cell? ⟨w.heap.size, 7, none⟩ = some (.int .i64 wh) := N.cell (i := 7) rfl
  have c8 : vx.cell? ⟨w.heap.size, 8, none⟩ = some (.int .i64 nl) := N.cell (i := 8) rfl
  have c9 : vx.cell? ⟨w.heap.size, 9, none⟩ = some (.int .i64 nh) := N.cell (i := 9) rfl
  by_cases hc : cd = 0
  rotate_left
  · have hc' : (cd != 0) = true := by simp [hc]
    clear CTv CTi
    go_wp2_with fail
    go_ret
    exact ⟨by rw [HX.out, if_pos hc, ← HO.out]; rfl, B⟩
  have hc' : (cd != 0) = false := by simp [hc]
  have HX2 : Hid (X = Y ++ spB ++ sv) := by (show X = _; rw [HX.out, if_neg (by simp [hc])])
  clear HX hc
  clear CTi
  go_wp2_with fail
  refine (CTv _).mono ?_
  rintro e x2 ⟨rfl, hb⟩
  go_wp2_with fail
  go_ret
  exact ⟨by rw [HX2.out, ← HO.out]; rfl, B.trans (hb.mono B.size)⟩
set_option maxHeartbeats 8000000 in
set_option maxRecDepth 100000 in
theorem specTell_6 (nd cd v : Int) (hd kn : Bool) (wl wh nl nh : Int) (w : World) (g0 : -9223372036854775808 ≤ nd ∧ nd ≤ 9223372036854775807) (g1 : -9223372036854775808 ≤ cd ∧ cd ≤ 9223372036854775807) (g2 : -9223372036854775808 ≤ v ∧ v ≤ 9223372036854775807) (g3 : -9223372036854775808 ≤ nl ∧ nl ≤ 9223372036854775807) (g4 : -9223372036854775808 ≤ nh ∧ nh ≤ 9223372036854775807) :
    Calls Tryd.prog 42 #[.agg #[.int .i64 6, .int .i64 nd, .int .i64 cd, .int .i64 v, .bool hd, .bool kn, .int .i64 wl, .int .i64 wh, .int .i64 nl, .int .i64 nh]] w fun e w' => e = .returned (.string (tlB 6 nd cd v hd nl nh)) ∧ Below w.heap.size w w' := by
  have HX : Hid (tlB 6 nd cd v hd nl nh = if cd ≠ 0 then bsB 6 nd cd else bsB 6 nd cd) := by (show tlB 6 nd cd v hd nl nh = _; unfold tlB; rw [if_neg (by omega), if_neg (by omega)]; rfl)
  have HB : Hid (bsB 6 nd cd = nmK 6 ++ spB ++ txI nd ++ spB ++ txI cd) := rfl
  have hne : (nmK 6).toList.isEmpty = false := by decide +kernel
  have CTn := fun u => specTextOf_any nd u g0.1 g0.2
  have CTc := fun u => specTextOf_any cd u g1.1 g1.2
  have CTv := fun u => specTextOf_any v u g2.1 g2.2
  have CTi := fun u => specIvalText_any nl nh u g3.1 g3.2 g4.1 g4.2
  have zn := txI_size' nd
  have zc := txI_size' cd
  have zv := txI_size' v
  have zi := ivT_size nl nh
  have zk := nmK_size 6
  clear g0 g1 g2 g3 g4
  generalize tlB 6 nd cd v hd nl nh = X at *
  generalize bsB 6 nd cd = Y at *
  generalize txI nd = sn at *
  generalize txI cd = sc at *
  generalize txI v = sv at *
  generalize ivT nl nh = si at *
  have e1 : (⟨#[32]⟩ : ByteArray).size = 1 := rfl
  have B := Below.nw w (.cells #[.int .i64 6, .int .i64 nd, .int .i64 cd, .int .i64 v, .bool hd, .bool kn, .int .i64 wl, .int .i64 wh, .int .i64 nl, .int .i64 nh] 66)
  have N := Bo.new w #[.int .i64 6, .int .i64 nd, .int .i64 cd, .int .i64 v, .bool hd, .bool kn, .int .i64 wl, .int .i64 wh, .int .i64 nl, .int .i64 nh] 66
  have CN := fun u => specName_any 6 u
  generalize nmK 6 = nm at *
  go_enter Tryd.func42, Tryd.ntmps42
  go_upto_region 1 with fail
  generalize w.alloc (.cells #[.int .i64 6, .int .i64 nd, .int .i64 cd, .int .i64 v, .bool hd, .bool kn, .int .i64 wl, .int .i64 wh, .int .i64 nl, .int .i64 nh] 66) = x0 at *
  have c0 : x0.cell? ⟨w.heap.size, 0, none⟩ = some (.int .i64 6) := N.cell (i := 0) rfl
  have c1 : x0.cell? ⟨w.heap.size, 1, none⟩ = some (.int .i64 nd) := N.cell (i := 1) rfl
  have c2 : x0.cell? ⟨w.heap.size, 2, none⟩ = some (.int .i64 cd) := N.cell (i := 2) rfl
  have c3 : x0.cell? ⟨w.heap.size, 3, none⟩ = some (.int .i64 v) := N.cell (i := 3) rfl
  have c4 : x0.cell? ⟨w.heap.size, 4, none⟩ = some (.bool hd) := N.cell (i := 4) rfl
  have c5 : x0.cell? ⟨w.heap.size, 5, none⟩ = some (.bool kn) := N.cell (i := 5) rfl
  have c6 : x0.cell? ⟨w.heap.size, 6, none⟩ = some (.int .i64 wl) := N.cell (i := 6) rfl
  have c7 : x0.cell? ⟨w.heap.size, 7, none⟩ = some (.int .i64 wh) := N.cell (i := 7) rfl
  have c8 : x0.cell? ⟨w.heap.size, 8, none⟩ = some (.int .i64 nl) := N.cell (i := 8) rfl
  have c9 : x0.cell? ⟨w.heap.size, 9, none⟩ = some (.int .i64 nh) := N.cell (i := 9) rfl
  go_wp2_with fail
  refine (CN _).mono ?_
  rintro e x1 ⟨rfl, hb⟩
  replace N := N.below hb
  replace B := B.trans (hb.mono B.size)
  clear hb CN c0 c1 c2 c3 c4 c5 c6 c7 c8 c9
  have c0 : x1.cell? ⟨w.heap.size, 0, none⟩ = some (.int .i64 6) := N.cell (i := 0) rfl
  have c1 : x1.cell? ⟨w.heap.size, 1, none⟩ = some (.int .i64 nd) := N.cell (i := 1) rfl
  have c2 : x1.cell? ⟨w.heap.size, 2, none⟩ = some (.int .i64 cd) := N.cell (i := 2) rfl
  have c3 : x1.cell? ⟨w.heap.size, 3, none⟩ = some (.int .i64 v) := N.cell (i := 3) rfl
  have c4 : x1.cell? ⟨w.heap.size, 4, none⟩ = some (.bool hd) := N.cell (i := 4) rfl
  have c5 : x1.cell? ⟨w.heap.size, 5, none⟩ = some (.bool kn) := N.cell (i := 5) rfl
  have c6 : x1.cell? ⟨w.heap.size, 6, none⟩ = some (.int .i64 wl) := N.cell (i := 6) rfl
  have c7 : x1.cell? ⟨w.heap.size, 7, none⟩ = some (.int .i64 wh) := N.cell (i := 7) rfl
  have c8 : x1.cell? ⟨w.heap.size, 8, none⟩ = some (.int .i64 nl) := N.cell (i := 8) rfl
  have c9 : x1.cell? ⟨w.heap.size, 9, none⟩ = some (.int .i64 nh) := N.cell (i := 9) rfl
  have a1 : ¬ 9223372036854775807 < nm.size + 1 := by omega
  have a2 : ¬ 9223372036854775807 < nm.size + 1 + sn.size := by omega
  have a3 : ¬ 9223372036854775807 < nm.size + 1 + sn.size + 1 := by omega
  have a4 : ¬ 9223372036854775807 < nm.size + 1 + sn.size + 1 + sc.size := by omega
  have hlt := N.1
  have HZ : Hid ((nm ++ ⟨#[32]⟩ ++ sn ++ ⟨#[32]⟩ ++ sc : ByteArray).size ≤ 52) := by (show (nm ++ ⟨#[32]⟩ ++ sn ++ ⟨#[32]⟩ ++ sc : ByteArray).size ≤ 52; simp only [ByteArray.size_append, e1]; omega)
  clear zn zc zk
  go_upto_region 11 with fail
  have SK : Hid (∀ w', Below x1.heap.size x1 w' → (fun w' => w'.cell? ⟨w.heap.size, 1, none⟩ = some (.int .i64 nd) ∧ w'.cell? ⟨w.heap.size, 2, none⟩ = some (.int .i64 cd)) w') := fun w' h => ⟨by rw [h.cell (p := ⟨w.heap.size, 1, none⟩) hlt]; exact c1, by rw [h.cell (p := ⟨w.heap.size, 2, none⟩) hlt]; exact c2⟩
  refine wp_region_held_drew (S := (fun w' => w'.cell? ⟨w.heap.size, 1, none⟩ = some (.int .i64 nd) ∧ w'.cell? ⟨w.heap.size, 2, none⟩ = some (.int .i64 cd))) (by kernel_rfl) ?_ (fun hHeld => ?_)
  · first | exact SK.out _ XB | exact SK.out _ (Below.drew (Below.refl _ _))
  have XB : Below x1.heap.size x1 x1.drew := Below.drew (Below.refl _ _)
  generalize x1.drew = vx at *
  refine wpAnyH_take (i := 0) (v := ?_) (by rw [List.getElem?_toArray]; rfl) (by kernel_rfl) (by kernel_rfl) (by kernel_rfl) (by intro _ _ _ h; exact h) (Or.inl ⟨by rfl, ?_⟩) (by assumption) ?_
  rotate_left
  · (intro w hSw; (try dsimp only at hSw); go_simp; all_goals with_reducible rfl)
  (try simp only [Act.put, List.setIfInBounds_toArray, List.set_cons_zero, List.set_cons_succ])
  refine wpAnyH_take (i := 1) (v := ?_) (by rw [List.getElem?_toArray]; rfl) (by kernel_rfl) (by kernel_rfl) (by kernel_rfl) (by intro _ _ _ h; exact h) (Or.inl ⟨by rfl, ?_⟩) (by assumption) ?_
  rotate_left
  · (intro w hSw; (try dsimp only at hSw); go_simp; all_goals with_reducible rfl)
  (try simp only [Act.put, List.setIfInBounds_toArray, List.set_cons_zero, List.set_cons_succ])
  refine wpAnyH_take (i := 2) (v := ?_) (by rw [List.getElem?_toArray]; rfl) (by kernel_rfl) (by kernel_rfl) (by kernel_rfl) (by intro _ _ _ h; exact h) (Or.inl ⟨by rfl, ?_⟩) (by assumption) ?_
  rotate_left
  · (intro w hSw; (try dsimp only at hSw); go_simp; all_goals with_reducible rfl)
  (try simp only [Act.put, List.setIfInBounds_toArray, List.set_cons_zero, List.set_cons_succ])
  refine wpAnyH_take (i := 3) (v := ?_) (by rw [List.getElem?_toArray]; rfl) (by kernel_rfl) (by kernel_rfl) (by kernel_rfl) (by intro _ _ _ h; exact h) (Or.inl ⟨by rfl, ?_⟩) (by assumption) ?_
  rotate_left
  · (intro w hSw; (try dsimp only at hSw); go_simp; all_goals with_reducible rfl)
  (try simp only [Act.put, List.setIfInBounds_toArray, List.set_cons_zero, List.set_cons_succ])
  refine wpAnyH_take (i := 7) (v := ?_) (by rw [List.getElem?_toArray]; rfl) (by kernel_rfl) (by kernel_rfl) (by kernel_rfl) (by intro _ _ _ h; exact h) (Or.inl ⟨by rfl, ?_⟩) (by assumption) ?_
  rotate_left
  · (intro w hSw; (try dsimp only at hSw); go_simp; all_goals with_reducible rfl)
  (try simp only [Act.put, List.setIfInBounds_toArray, List.set_cons_zero, List.set_cons_succ])
  refine wpAnyH_take (i := 8) (v := ?_) (by rw [List.getElem?_toArray]; rfl) (by kernel_rfl) (by kernel_rfl) (by kernel_rfl) (by intro _ _ _ h; exact h) (Or.inl ⟨by rfl, ?_⟩) (by assumption) ?_
  rotate_left
  · (intro w hSw; (try dsimp only at hSw); go_simp; all_goals with_reducible rfl)
  (try simp only [Act.put, List.setIfInBounds_toArray, List.set_cons_zero, List.set_cons_succ])
  refine wpAnyH_ready (rs := [4]) (by kernel_rfl) (by simp) ?_
  refine AllReadyH.cons (by rw [List.getElem?_toArray]; rfl) (fun K hK => ?_) AllReadyH.nil
  go_simp
  refine (CTn _).mono ?_; rintro ee vx ⟨rfl, hbl⟩; (replace XB := XB.trans (hbl.mono XB.size)); (clear hbl)
  (try go_wp2_with fail)
  refine hK.out _ _ ?_ (fun hHeld => ?_)
  · first | exact SK.out _ XB | exact SK.out _ (Below.drew (Below.refl _ _))
  clear hK K
  (try simp only [Act.put, List.setIfInBounds_toArray, List.set_cons_zero, List.set_cons_succ])
  refine wpAnyH_take (i := 5) (v := ?_) (by rw [List.getElem?_toArray]; rfl) (by kernel_rfl) (by kernel_rfl) (by kernel_rfl) (by intro _ _ _ h; exact h) (Or.inl ⟨by rfl, ?_⟩) (by assumption) ?_
  rotate_left
  · (intro w hSw; (try dsimp only at hSw); go_simp; all_goals with_reducible rfl)
  (try simp only [Act.put, List.setIfInBounds_toArray, List.set_cons_zero, List.set_cons_succ])
  refine wpAnyH_take (i := 6) (v := ?_) (by rw [List.getElem?_toArray]; rfl) (by kernel_rfl) (by kernel_rfl) (by kernel_rfl) (by intro _ _ _ h; exact h) (Or.inl ⟨by rfl, ?_⟩) (by assumption) ?_
  rotate_left
  · (intro w hSw; (try dsimp only at hSw); go_simp; all_goals with_reducible rfl)
  (try simp only [Act.put, List.setIfInBounds_toArray, List.set_cons_zero, List.set_cons_succ])
  refine wpAnyH_ready (rs := [9]) (by kernel_rfl) (by simp) ?_
  refine AllReadyH.cons (by rw [List.getElem?_toArray]; rfl) (fun K hK => ?_) AllReadyH.nil
  go_simp
  refine (CTc _).mono ?_; rintro ee vx ⟨rfl, hbl⟩; (replace XB := XB.trans (hbl.mono XB.size)); (clear hbl)
  (try go_wp2_with fail)
  refine hK.out _ _ ?_ (fun hHeld => ?_)
  · first | exact SK.out _ XB | exact SK.out _ (Below.drew (Below.refl _ _))
  clear hK K
  (try simp only [Act.put, List.setIfInBounds_toArray, List.set_cons_zero, List.set_cons_succ])
  refine wpAnyH_take (i := 10) (v := ?_) (by rw [List.getElem?_toArray]; rfl) (by kernel_rfl) (by kernel_rfl) (by kernel_rfl) (by intro _ _ _ h; exact h) (Or.inl ⟨by rfl, ?_⟩) (by assumption) ?_
  rotate_left
  · (intro w hSw; (try dsimp only at hSw); go_simp; all_goals with_reducible rfl)
  (try simp only [Act.put, List.setIfInBounds_toArray, List.set_cons_zero, List.set_cons_succ])
  refine wpAnyH_take (i := 11) (v := ?_) (by rw [List.getElem?_toArray]; rfl) (by kernel_rfl) (by kernel_rfl) (by kernel_rfl) (by intro _ _ _ h; exact h) (Or.inl ⟨by rfl, ?_⟩) (by assumption) ?_
  rotate_left
  · (intro w hSw; (try dsimp only at hSw); go_simp; all_goals with_reducible rfl)
  (try simp only [Act.put, List.setIfInBounds_toArray, List.set_cons_zero, List.set_cons_succ])
  refine wpAnyH_done (by kernel_rfl) ?_ _
  replace N := N.below XB
  replace B := B.trans (XB.mono B.size)
  clear SK XB a1 a2 a3 a4 c0 c1 c2 c3 c4 c5 c6 c7 c8 c9 hne CTn CTc hlt
  have HO : Hid (nm ++ ⟨#[32]⟩ ++ sn ++ ⟨#[32]⟩ ++ sc = Y) := HB.out.symm
  clear HB
  generalize (nm ++ ⟨#[32]⟩ ++ sn ++ ⟨#[32]⟩ ++ sc : ByteArray) = O at *
  have hzO := HZ.out
  clear HZ
  have a5 : ¬ 9223372036854775807 < O.size + 1 := by omega
  have a6 : ¬ 9223372036854775807 < O.size + 1 + sv.size := by omega
  have a7 : ¬ 9223372036854775807 < O.size + 1 + si.size := by omega
  have a8 : ¬ 9223372036854775807 < O.size + 1 + sv.size + 6 := by omega
  have e6 : (⟨#[32, 104, 111, 108, 100, 115]⟩ : ByteArray).size = 6 := rfl
  clear zv zi hzO
  have c0 : vx.cell? ⟨w.heap.size, 0, none⟩ = some (.int .i64 6) := N.cell (i := 0) rfl
  have c1 : vx.cell? ⟨w.heap.size, 1, none⟩ = some (.int .i64 nd) := N.cell (i := 1) rfl
  have c2 : vx.cell? ⟨w.heap.size, 2, none⟩ = some (.int .i64 cd) := N.cell (i := 2) rfl
  have c3 : vx.cell? ⟨w.heap.size, 3, none⟩ = some (.int .i64 v) := N.cell (i := 3) rfl
  have c4 : vx.cell? ⟨w.heap.size, 4, none⟩ = some (.bool hd) := N.cell (i := 4) rfl
  have c5 : vx.cell? ⟨w.heap.size, 5, none⟩ = some (.bool kn) := N.cell (i := 5) rfl
  have c6 : vx.cell? ⟨w.heap.size, 6, none⟩ = some (.int .i64 wl) := N.cell (i := 6) rfl
  have c7 : vx.cell? ⟨w.heap.size, 7, none⟩ = some (.int .i64 wh) := N.cell (i := 7) rfl
  have c8 : vx.cell? ⟨w.heap.size, 8, none⟩ = some (.int .i64 nl) := N.cell (i := 8) rfl
  have c9 : vx.cell? ⟨w.heap.size, 9, none⟩ = some (.int .i64 nh) := N.cell (i := 9) rfl
  by_cases hc : cd = 0
  rotate_left
  · have hc' : (cd != 0) = true := by simp [hc]
    clear CTv CTi
    go_wp2_with fail
    go_ret
    exact ⟨by rw [HX.out, if_pos hc, ← HO.out]; rfl, B⟩
  have hc' : (cd != 0) = false := by simp [hc]
  have HX2 : Hid (X = Y) := by (show X = _; rw [HX.out, if_neg (by simp [hc])])
  clear HX hc
  clear CTv CTi
  go_wp2_with fail
  go_ret
  exact ⟨by rw [HX2.out, ← HO.out]; rfl, B⟩
set_option maxHeartbeats 8000000 in
set_option maxRecDepth 100000 in
theorem specTell_7 (nd cd v : Int) (hd kn : Bool) (wl wh nl nh : Int) (w : World) (g0 : -9223372036854775808 ≤ nd ∧ nd ≤ 9223372036854775807) (g1 : -9223372036854775808 ≤ cd ∧ cd ≤ 9223372036854775807) (g2 : -9223372036854775808 ≤ v ∧ v ≤ 9223372036854775807) (g3 : -9223372036854775808 ≤ nl ∧ nl ≤ 9223372036854775807) (g4 : -9223372036854775808 ≤ nh ∧ nh ≤ 9223372036854775807) :
    Calls Tryd.prog 42 #[.agg #[.int .i64 7, .int .i64 nd, .int .i64 cd, .int .i64 v, .bool hd, .bool kn, .int .i64 wl, .int .i64 wh, .int .i64 nl, .int .i64 nh]] w fun e w' => e = .returned (.string (tlB 7 nd cd v hd nl nh)) ∧ Below w.heap.size w w' := by
  have HX : Hid (tlB 7 nd cd v hd nl nh = if cd ≠ 0 then bsB 7 nd cd else bsB 7 nd cd ++ spB ++ ivT nl nh) := by (show tlB 7 nd cd v hd nl nh = _; unfold tlB; rw [if_neg (by omega), if_neg (by omega)]; rfl)
  have HB : Hid (bsB 7 nd cd = nmK 7 ++ spB ++ txI nd ++ spB ++ txI cd) := rfl
  have hne : (nmK 7).toList.isEmpty = false := by decide +kernel
  have CTn := fun u => specTextOf_any nd u g0.1 g0.2
  have CTc := fun u => specTextOf_any cd u g1.1 g1.2
  have CTv := fun u => specTextOf_any v u g2.1 g2.2
  have CTi := fun u => specIvalText_any nl nh u g3.1 g3.2 g4.1 g4.2
  have zn := txI_size' nd
  have zc := txI_size' cd
  have zv := txI_size' v
  have zi := ivT_size nl nh
  have zk := nmK_size 7
  clear g0 g1 g2 g3 g4
  generalize tlB 7 nd cd v hd nl nh = X at *
  generalize bsB 7 nd cd = Y at *
  generalize txI nd = sn at *
  generalize txI cd = sc at *
  generalize txI v = sv at *
  generalize ivT nl nh = si at *
  have e1 : (⟨#[32]⟩ : ByteArray).size = 1 := rfl
  have B := Below.nw w (.cells #[.int .i64 7, .int .i64 nd, .int .i64 cd, .int .i64 v, .bool hd, .bool kn, .int .i64 wl, .int .i64 wh, .int .i64 nl, .int .i64 nh] 66)
  have N := Bo.new w #[.int .i64 7, .int .i64 nd, .int .i64 cd, .int .i64 v, .bool hd, .bool kn, .int .i64 wl, .int .i64 wh, .int .i64 nl, .int .i64 nh] 66
  have CN := fun u => specName_any 7 u
  generalize nmK 7 = nm at *
  go_enter Tryd.func42, Tryd.ntmps42
  go_upto_region 1 with fail
  generalize w.alloc (.cells #[.int .i64 7, .int .i64 nd, .int .i64 cd, .int .i64 v, .bool hd, .bool kn, .int .i64 wl, .int .i64 wh, .int .i64 nl, .int .i64 nh] 66) = x0 at *
  have c0 : x0.cell? ⟨w.heap.size, 0, none⟩ = some (.int .i64 7) := N.cell (i := 0) rfl
  have c1 : x0.cell? ⟨w.heap.size, 1, none⟩ = some (.int .i64 nd) := N.cell (i := 1) rfl
  have c2 : x0.cell? ⟨w.heap.size, 2, none⟩ = some (.int .i64 cd) := N.cell (i := 2) rfl
  have c3 : x0.cell? ⟨w.heap.size, 3, none⟩ = some (.int .i64 v) := N.cell (i := 3) rfl
  have c4 : x0.cell? ⟨w.heap.size, 4, none⟩ = some (.bool hd) := N.cell (i := 4) rfl
  have c5 : x0.cell? ⟨w.heap.size, 5, none⟩ = some (.bool kn) := N.cell (i := 5) rfl
  have c6 : x0.cell? ⟨w.heap.size, 6, none⟩ = some (.int .i64 wl) := N.cell (i := 6) rfl
  have c7 : x0.cell? ⟨w.heap.size, 7, none⟩ = some (.int .i64 wh) := N.cell (i := 7) rfl
  have c8 : x0.cell? ⟨w.heap.size, 8, none⟩ = some (.int .i64 nl) := N.cell (i := 8) rfl
  have c9 : x0.cell? ⟨w.heap.size, 9, none⟩ = some (.int .i64 nh) := N.cell (i := 9) rfl
  go_wp2_with fail
  refine (CN _).mono ?_
  rintro e x1 ⟨rfl, hb⟩
  replace N := N.below hb
  replace B := B.trans (hb.mono B.size)
  clear hb CN c0 c1 c2 c3 c4 c5 c6 c7 c8 c9
  have c0 : x1.cell? ⟨w.heap.size, 0, none⟩ = some (.int .i64 7) := N.cell (i := 0) rfl
  have c1 : x1.cell? ⟨w.heap.size, 1, none⟩ = some (.int .i64 nd) := N.cell (i := 1) rfl
  have c2 : x1.cell? ⟨w.heap.size, 2, none⟩ = some (.int .i64 cd) := N.cell (i := 2) rfl
  have c3 : x1.cell? ⟨w.heap.size, 3, none⟩ = some (.int .i64 v) := N.cell (i := 3) rfl
  have c4 : x1.cell? ⟨w.heap.size, 4, none⟩ = some (.bool hd) := N.cell (i := 4) rfl
  have c5 : x1.cell? ⟨w.heap.size, 5, none⟩ = some (.bool kn) := N.cell (i := 5) rfl
  have c6 : x1.cell? ⟨w.heap.size, 6, none⟩ = some (.int .i64 wl) := N.cell (i := 6) rfl
  have c7 : x1.cell? ⟨w.heap.size, 7, none⟩ = some (.int .i64 wh) := N.cell (i := 7) rfl
  have c8 : x1.cell? ⟨w.heap.size, 8, none⟩ = some (.int .i64 nl) := N.cell (i := 8) rfl
  have c9 : x1.cell? ⟨w.heap.size, 9, none⟩ = some (.int .i64 nh) := N.cell (i := 9) rfl
  have a1 : ¬ 9223372036854775807 < nm.size + 1 := by omega
  have a2 : ¬ 9223372036854775807 < nm.size + 1 + sn.size := by omega
  have a3 : ¬ 9223372036854775807 < nm.size + 1 + sn.size + 1 := by omega
  have a4 : ¬ 9223372036854775807 < nm.size + 1 + sn.size + 1 + sc.size := by omega
  have hlt := N.1
  have HZ : Hid ((nm ++ ⟨#[32]⟩ ++ sn ++ ⟨#[32]⟩ ++ sc : ByteArray).size ≤ 52) := by (show (nm ++ ⟨#[32]⟩ ++ sn ++ ⟨#[32]⟩ ++ sc : ByteArray).size ≤ 52; simp only [ByteArray.size_append, e1]; omega)
  clear zn zc zk
  go_upto_region 11 with fail
  have SK : Hid (∀ w', Below x1.heap.size x1 w' → (fun w' => w'.cell? ⟨w.heap.size, 1, none⟩ = some (.int .i64 nd) ∧ w'.cell? ⟨w.heap.size, 2, none⟩ = some (.int .i64 cd)) w') := fun w' h => ⟨by rw [h.cell (p := ⟨w.heap.size, 1, none⟩) hlt]; exact c1, by rw [h.cell (p := ⟨w.heap.size, 2, none⟩) hlt]; exact c2⟩
  refine wp_region_held_drew (S := (fun w' => w'.cell? ⟨w.heap.size, 1, none⟩ = some (.int .i64 nd) ∧ w'.cell? ⟨w.heap.size, 2, none⟩ = some (.int .i64 cd))) (by kernel_rfl) ?_ (fun hHeld => ?_)
  · first | exact SK.out _ XB | exact SK.out _ (Below.drew (Below.refl _ _))
  have XB : Below x1.heap.size x1 x1.drew := Below.drew (Below.refl _ _)
  generalize x1.drew = vx at *
  refine wpAnyH_take (i := 0) (v := ?_) (by rw [List.getElem?_toArray]; rfl) (by kernel_rfl) (by kernel_rfl) (by kernel_rfl) (by intro _ _ _ h; exact h) (Or.inl ⟨by rfl, ?_⟩) (by assumption) ?_
  rotate_left
  · (intro w hSw; (try dsimp only at hSw); go_simp; all_goals with_reducible rfl)
  (try simp only [Act.put, List.setIfInBounds_toArray, List.set_cons_zero, List.set_cons_succ])
  refine wpAnyH_take (i := 1) (v := ?_) (by rw [List.getElem?_toArray]; rfl) (by kernel_rfl) (by kernel_rfl) (by kernel_rfl) (by intro _ _ _ h; exact h) (Or.inl ⟨by rfl, ?_⟩) (by assumption) ?_
  rotate_left
  · (intro w hSw; (try dsimp only at hSw); go_simp; all_goals with_reducible rfl)
  (try simp only [Act.put, List.setIfInBounds_toArray, List.set_cons_zero, List.set_cons_succ])
  refine wpAnyH_take (i := 2) (v := ?_) (by rw [List.getElem?_toArray]; rfl) (by kernel_rfl) (by kernel_rfl) (by kernel_rfl) (by intro _ _ _ h; exact h) (Or.inl ⟨by rfl, ?_⟩) (by assumption) ?_
  rotate_left
  · (intro w hSw; (try dsimp only at hSw); go_simp; all_goals with_reducible rfl)
  (try simp only [Act.put, List.setIfInBounds_toArray, List.set_cons_zero, List.set_cons_succ])
  refine wpAnyH_take (i := 3) (v := ?_) (by rw [List.getElem?_toArray]; rfl) (by kernel_rfl) (by kernel_rfl) (by kernel_rfl) (by intro _ _ _ h; exact h) (Or.inl ⟨by rfl, ?_⟩) (by assumption) ?_
  rotate_left
  · (intro w hSw; (try dsimp only at hSw); go_simp; all_goals with_reducible rfl)
  (try simp only [Act.put, List.setIfInBounds_toArray, List.set_cons_zero, List.set_cons_succ])
  refine wpAnyH_take (i := 7) (v := ?_) (by rw [List.getElem?_toArray]; rfl) (by kernel_rfl) (by kernel_rfl) (by kernel_rfl) (by intro _ _ _ h; exact h) (Or.inl ⟨by rfl, ?_⟩) (by assumption) ?_
  rotate_left
  · (intro w hSw; (try dsimp only at hSw); go_simp; all_goals with_reducible rfl)
  (try simp only [Act.put, List.setIfInBounds_toArray, List.set_cons_zero, List.set_cons_succ])
  refine wpAnyH_take (i := 8) (v := ?_) (by rw [List.getElem?_toArray]; rfl) (by kernel_rfl) (by kernel_rfl) (by kernel_rfl) (by intro _ _ _ h; exact h) (Or.inl ⟨by rfl, ?_⟩) (by assumption) ?_
  rotate_left
  · (intro w hSw; (try dsimp only at hSw); go_simp; all_goals with_reducible rfl)
  (try simp only [Act.put, List.setIfInBounds_toArray, List.set_cons_zero, List.set_cons_succ])
  refine wpAnyH_ready (rs := [4]) (by kernel_rfl) (by simp) ?_
  refine AllReadyH.cons (by rw [List.getElem?_toArray]; rfl) (fun K hK => ?_) AllReadyH.nil
  go_simp
  refine (CTn _).mono ?_; rintro ee vx ⟨rfl, hbl⟩; (replace XB := XB.trans (hbl.mono XB.size)); (clear hbl)
  (try go_wp2_with fail)
  refine hK.out _ _ ?_ (fun hHeld => ?_)
  · first | exact SK.out _ XB | exact SK.out _ (Below.drew (Below.refl _ _))
  clear hK K
  (try simp only [Act.put, List.setIfInBounds_toArray, List.set_cons_zero, List.set_cons_succ])
  refine wpAnyH_take (i := 5) (v := ?_) (by rw [List.getElem?_toArray]; rfl) (by kernel_rfl) (by kernel_rfl) (by kernel_rfl) (by intro _ _ _ h; exact h) (Or.inl ⟨by rfl, ?_⟩) (by assumption) ?_
  rotate_left
  · (intro w hSw; (try dsimp only at hSw); go_simp; all_goals with_reducible rfl)
  (try simp only [Act.put, List.setIfInBounds_toArray, List.set_cons_zero, List.set_cons_succ])
  refine wpAnyH_take (i := 6) (v := ?_) (by rw [List.getElem?_toArray]; rfl) (by kernel_rfl) (by kernel_rfl) (by kernel_rfl) (by intro _ _ _ h; exact h) (Or.inl ⟨by rfl, ?_⟩) (by assumption) ?_
  rotate_left
  · (intro w hSw; (try dsimp only at hSw); go_simp; all_goals with_reducible rfl)
  (try simp only [Act.put, List.setIfInBounds_toArray, List.set_cons_zero, List.set_cons_succ])
  refine wpAnyH_ready (rs := [9]) (by kernel_rfl) (by simp) ?_
  refine AllReadyH.cons (by rw [List.getElem?_toArray]; rfl) (fun K hK => ?_) AllReadyH.nil
  go_simp
  refine (CTc _).mono ?_; rintro ee vx ⟨rfl, hbl⟩; (replace XB := XB.trans (hbl.mono XB.size)); (clear hbl)
  (try go_wp2_with fail)
  refine hK.out _ _ ?_ (fun hHeld => ?_)
  · first | exact SK.out _ XB | exact SK.out _ (Below.drew (Below.refl _ _))
  clear hK K
  (try simp only [Act.put, List.setIfInBounds_toArray, List.set_cons_zero, List.set_cons_succ])
  refine wpAnyH_take (i := 10) (v := ?_) (by rw [List.getElem?_toArray]; rfl) (by kernel_rfl) (by kernel_rfl) (by kernel_rfl) (by intro _ _ _ h; exact h) (Or.inl ⟨by rfl, ?_⟩) (by assumption) ?_
  rotate_left
  · (intro w hSw; (try dsimp only at hSw); go_simp; all_goals with_reducible rfl)
  (try simp only [Act.put, List.setIfInBounds_toArray, List.set_cons_zero, List.set_cons_succ])
  refine wpAnyH_take (i := 11) (v := ?_) (by rw [List.getElem?_toArray]; rfl) (by kernel_rfl) (by kernel_rfl) (by kernel_rfl) (by intro _ _ _ h; exact h) (Or.inl ⟨by rfl, ?_⟩) (by assumption) ?_
  rotate_left
  · (intro w hSw; (try dsimp only at hSw); go_simp; all_goals with_reducible rfl)
  (try simp only [Act.put, List.setIfInBounds_toArray, List.set_cons_zero, List.set_cons_succ])
  refine wpAnyH_done (by kernel_rfl) ?_ _
  replace N := N.below XB
  replace B := B.trans (XB.mono B.size)
  clear SK XB a1 a2 a3 a4 c0 c1 c2 c3 c4 c5 c6 c7 c8 c9 hne CTn CTc hlt
  have HO : Hid (nm ++ ⟨#[32]⟩ ++ sn ++ ⟨#[32]⟩ ++ sc = Y) := HB.out.symm
  clear HB
  generalize (nm ++ ⟨#[32]⟩ ++ sn ++ ⟨#[32]⟩ ++ sc : ByteArray) = O at *
  have hzO := HZ.out
  clear HZ
  have a5 : ¬ 9223372036854775807 < O.size + 1 := by omega
  have a6 : ¬ 9223372036854775807 < O.size + 1 + sv.size := by omega
  have a7 : ¬ 9223372036854775807 < O.size + 1 + si.size := by omega
  have a8 : ¬ 9223372036854775807 < O.size + 1 + sv.size + 6 := by omega
  have e6 : (⟨#[32, 104, 111, 108, 100, 115]⟩ : ByteArray).size = 6 := rfl
  clear zv zi hzO
  have c0 : vx.cell? ⟨w.heap.size, 0, none⟩ = some (.int .i64 7) := N.cell (i := 0) rfl
  have c1 : vx.cell? ⟨w.heap.size, 1, none⟩ = some (.int .i64 nd) := N.cell (i := 1) rfl
  have c2 : vx.cell? ⟨w.heap.size, 2, none⟩ = some (.int .i64 cd) := N.cell (i := 2) rfl
  have c3 : vx.cell? ⟨w.heap.size, 3, none⟩ = some (.int .i64 v) := N.cell (i := 3) rfl
  have c4 : vx.cell? ⟨w.heap.size, 4, none⟩ = some (.bool hd) := N.cell (i := 4) rfl
  have c5 : vx.cell? ⟨w.heap.size, 5, none⟩ = some (.bool kn) := N.cell (i := 5) rfl
  have c6 : vx.cell? ⟨w.heap.size, 6, none⟩ = some (.int .i64 wl) := N.cell (i := 6) rfl
  have c7 : vx.cell? ⟨w.heap.size, 7, none⟩ = some (.int .i64 wh) := N.cell (i := 7) rfl
  have c8 : vx.cell? ⟨w.heap.size, 8, none⟩ = some (.int .i64 nl) := N.cell (i := 8) rfl
  have c9 : vx.cell? ⟨w.heap.size, 9, none⟩ = some (.int .i64 nh) := N.cell (i := 9) rfl
  by_cases hc : cd = 0
  rotate_left
  · have hc' : (cd != 0) = true := by simp [hc]
    clear CTv CTi
    go_wp2_with fail
    go_ret
    exact ⟨by rw [HX.out, if_pos hc, ← HO.out]; rfl, B⟩
  have hc' : (cd != 0) = false := by simp [hc]
  have HX2 : Hid (X = Y ++ spB ++ si) := by (show X = _; rw [HX.out, if_neg (by simp [hc])])
  clear HX hc
  clear CTv
  go_wp2_with fail
  refine (CTi _).mono ?_
  rintro e x2 ⟨rfl, hb⟩
  go_wp2_with fail
  go_ret
  exact ⟨by rw [HX2.out, ← HO.out]; rfl, B.trans (hb.mono B.size)⟩
set_option maxHeartbeats 8000000 in
set_option maxRecDepth 100000 in
theorem specTell_8 (nd cd v : Int) (hd kn : Bool) (wl wh nl nh : Int) (w : World) (g0 : -9223372036854775808 ≤ nd ∧ nd ≤ 9223372036854775807) (g1 : -9223372036854775808 ≤ cd ∧ cd ≤ 9223372036854775807) (g2 : -9223372036854775808 ≤ v ∧ v ≤ 9223372036854775807) (g3 : -9223372036854775808 ≤ nl ∧ nl ≤ 9223372036854775807) (g4 : -9223372036854775808 ≤ nh ∧ nh ≤ 9223372036854775807) :
    Calls Tryd.prog 42 #[.agg #[.int .i64 8, .int .i64 nd, .int .i64 cd, .int .i64 v, .bool hd, .bool kn, .int .i64 wl, .int .i64 wh, .int .i64 nl, .int .i64 nh]] w fun e w' => e = .returned (.string (tlB 8 nd cd v hd nl nh)) ∧ Below w.heap.size w w' := by
  have HX : Hid (tlB 8 nd cd v hd nl nh = if cd ≠ 0 then bsB 8 nd cd else (if hd then bsB 8 nd cd ++ spB ++ txI v ++ (spB ++ hoB) else bsB 8 nd cd ++ spB ++ txI v)) := by (show tlB 8 nd cd v hd nl nh = _; unfold tlB; rw [if_neg (by omega), if_neg (by omega)]; rfl)
  have HB : Hid (bsB 8 nd cd = nmK 8 ++ spB ++ txI nd ++ spB ++ txI cd) := rfl
  have hne : (nmK 8).toList.isEmpty = false := by decide +kernel
  have CTn := fun u => specTextOf_any nd u g0.1 g0.2
  have CTc := fun u => specTextOf_any cd u g1.1 g1.2
  have CTv := fun u => specTextOf_any v u g2.1 g2.2
  have CTi := fun u => specIvalText_any nl nh u g3.1 g3.2 g4.1 g4.2
  have zn := txI_size' nd
  have zc := txI_size' cd
  have zv := txI_size' v
  have zi := ivT_size nl nh
  have zk := nmK_size 8
  clear g0 g1 g2 g3 g4
  generalize tlB 8 nd cd v hd nl nh = X at *
  generalize bsB 8 nd cd = Y at *
  generalize txI nd = sn at *
  generalize txI cd = sc at *
  generalize txI v = sv at *
  generalize ivT nl nh = si at *
  have e1 : (⟨#[32]⟩ : ByteArray).size = 1 := rfl
  have B := Below.nw w (.cells #[.int .i64 8, .int .i64 nd, .int .i64 cd, .int .i64 v, .bool hd, .bool kn, .int .i64 wl, .int .i64 wh, .int .i64 nl, .int .i64 nh] 66)
  have N := Bo.new w #[.int .i64 8, .int .i64 nd, .int .i64 cd, .int .i64 v, .bool hd, .bool kn, .int .i64 wl, .int .i64 wh, .int .i64 nl, .int .i64 nh] 66
  have CN := fun u => specName_any 8 u
  generalize nmK 8 = nm at *
  go_enter Tryd.func42, Tryd.ntmps42
  go_upto_region 1 with fail
  generalize w.alloc (.cells #[.int .i64 8, .int .i64 nd, .int .i64 cd, .int .i64 v, .bool hd, .bool kn, .int .i64 wl, .int .i64 wh, .int .i64 nl, .int .i64 nh] 66) = x0 at *
  have c0 : x0.cell? ⟨w.heap.size, 0, none⟩ = some (.int .i64 8) := N.cell (i := 0) rfl
  have c1 : x0.cell? ⟨w.heap.size, 1, none⟩ = some (.int .i64 nd) := N.cell (i := 1) rfl
  have c2 : x0.cell? ⟨w.heap.size, 2, none⟩ = some (.int .i64 cd) := N.cell (i := 2) rfl
  have c3 : x0.cell? ⟨w.heap.size, 3, none⟩ = some (.int .i64 v) := N.cell (i := 3) rfl
  have c4 : x0.cell? ⟨w.heap.size, 4, none⟩ = some (.bool hd) := N.cell (i := 4) rfl
  have c5 : x0.cell? ⟨w.heap.size, 5, none⟩ = some (.bool kn) := N.cell (i := 5) rfl
  have c6 : x0.cell? ⟨w.heap.size, 6, none⟩ = some (.int .i64 wl) := N.cell (i := 6) rfl
  have c7 : x0.cell? ⟨w.heap.size, 7, none⟩ = some (.int .i64 wh) := N.cell (i := 7) rfl
  have c8 : x0.cell? ⟨w.heap.size, 8, none⟩ = some (.int .i64 nl) := N.cell (i := 8) rfl
  have c9 : x0.cell? ⟨w.heap.size, 9, none⟩ = some (.int .i64 nh) := N.cell (i := 9) rfl
  go_wp2_with fail
  refine (CN _).mono ?_
  rintro e x1 ⟨rfl, hb⟩
  replace N := N.below hb
  replace B := B.trans (hb.mono B.size)
  clear hb CN c0 c1 c2 c3 c4 c5 c6 c7 c8 c9
  have c0 : x1.cell? ⟨w.heap.size, 0, none⟩ = some (.int .i64 8) := N.cell (i := 0) rfl
  have c1 : x1.cell? ⟨w.heap.size, 1, none⟩ = some (.int .i64 nd) := N.cell (i := 1) rfl
  have c2 : x1.cell? ⟨w.heap.size, 2, none⟩ = some (.int .i64 cd) := N.cell (i := 2) rfl
  have c3 : x1.cell? ⟨w.heap.size, 3, none⟩ = some (.int .i64 v) := N.cell (i := 3) rfl
  have c4 : x1.cell? ⟨w.heap.size, 4, none⟩ = some (.bool hd) := N.cell (i := 4) rfl
  have c5 : x1.cell? ⟨w.heap.size, 5, none⟩ = some (.bool kn) := N.cell (i := 5) rfl
  have c6 : x1.cell? ⟨w.heap.size, 6, none⟩ = some (.int .i64 wl) := N.cell (i := 6) rfl
  have c7 : x1.cell? ⟨w.heap.size, 7, none⟩ = some (.int .i64 wh) := N.cell (i := 7) rfl
  have c8 : x1.cell? ⟨w.heap.size, 8, none⟩ = some (.int .i64 nl) := N.cell (i := 8) rfl
  have c9 : x1.cell? ⟨w.heap.size, 9, none⟩ = some (.int .i64 nh) := N.cell (i := 9) rfl
  have a1 : ¬ 9223372036854775807 < nm.size + 1 := by omega
  have a2 : ¬ 9223372036854775807 < nm.size + 1 + sn.size := by omega
  have a3 : ¬ 9223372036854775807 < nm.size + 1 + sn.size + 1 := by omega
  have a4 : ¬ 9223372036854775807 < nm.size + 1 + sn.size + 1 + sc.size := by omega
  have hlt := N.1
  have HZ : Hid ((nm ++ ⟨#[32]⟩ ++ sn ++ ⟨#[32]⟩ ++ sc : ByteArray).size ≤ 52) := by (show (nm ++ ⟨#[32]⟩ ++ sn ++ ⟨#[32]⟩ ++ sc : ByteArray).size ≤ 52; simp only [ByteArray.size_append, e1]; omega)
  clear zn zc zk
  go_upto_region 11 with fail
  have SK : Hid (∀ w', Below x1.heap.size x1 w' → (fun w' => w'.cell? ⟨w.heap.size, 1, none⟩ = some (.int .i64 nd) ∧ w'.cell? ⟨w.heap.size, 2, none⟩ = some (.int .i64 cd)) w') := fun w' h => ⟨by rw [h.cell (p := ⟨w.heap.size, 1, none⟩) hlt]; exact c1, by rw [h.cell (p := ⟨w.heap.size, 2, none⟩) hlt]; exact c2⟩
  refine wp_region_held_drew (S := (fun w' => w'.cell? ⟨w.heap.size, 1, none⟩ = some (.int .i64 nd) ∧ w'.cell? ⟨w.heap.size, 2, none⟩ = some (.int .i64 cd))) (by kernel_rfl) ?_ (fun hHeld => ?_)
  · first | exact SK.out _ XB | exact SK.out _ (Below.drew (Below.refl _ _))
  have XB : Below x1.heap.size x1 x1.drew := Below.drew (Below.refl _ _)
  generalize x1.drew = vx at *
  refine wpAnyH_take (i := 0) (v := ?_) (by rw [List.getElem?_toArray]; rfl) (by kernel_rfl) (by kernel_rfl) (by kernel_rfl) (by intro _ _ _ h; exact h) (Or.inl ⟨by rfl, ?_⟩) (by assumption) ?_
  rotate_left
  · (intro w hSw; (try dsimp only at hSw); go_simp; all_goals with_reducible rfl)
  (try simp only [Act.put, List.setIfInBounds_toArray, List.set_cons_zero, List.set_cons_succ])
  refine wpAnyH_take (i := 1) (v := ?_) (by rw [List.getElem?_toArray]; rfl) (by kernel_rfl) (by kernel_rfl) (by kernel_rfl) (by intro _ _ _ h; exact h) (Or.inl ⟨by rfl, ?_⟩) (by assumption) ?_
  rotate_left
  · (intro w hSw; (try dsimp only at hSw); go_simp; all_goals with_reducible rfl)
  (try simp only [Act.put, List.setIfInBounds_toArray, List.set_cons_zero, List.set_cons_succ])
  refine wpAnyH_take (i := 2) (v := ?_) (by rw [List.getElem?_toArray]; rfl) (by kernel_rfl) (by kernel_rfl) (by kernel_rfl) (by intro _ _ _ h; exact h) (Or.inl ⟨by rfl, ?_⟩) (by assumption) ?_
  rotate_left
  · (intro w hSw; (try dsimp only at hSw); go_simp; all_goals with_reducible rfl)
  (try simp only [Act.put, List.setIfInBounds_toArray, List.set_cons_zero, List.set_cons_succ])
  refine wpAnyH_take (i := 3) (v := ?_) (by rw [List.getElem?_toArray]; rfl) (by kernel_rfl) (by kernel_rfl) (by kernel_rfl) (by intro _ _ _ h; exact h) (Or.inl ⟨by rfl, ?_⟩) (by assumption) ?_
  rotate_left
  · (intro w hSw; (try dsimp only at hSw); go_simp; all_goals with_reducible rfl)
  (try simp only [Act.put, List.setIfInBounds_toArray, List.set_cons_zero, List.set_cons_succ])
  refine wpAnyH_take (i := 7) (v := ?_) (by rw [List.getElem?_toArray]; rfl) (by kernel_rfl) (by kernel_rfl) (by kernel_rfl) (by intro _ _ _ h; exact h) (Or.inl ⟨by rfl, ?_⟩) (by assumption) ?_
  rotate_left
  · (intro w hSw; (try dsimp only at hSw); go_simp; all_goals with_reducible rfl)
  (try simp only [Act.put, List.setIfInBounds_toArray, List.set_cons_zero, List.set_cons_succ])
  refine wpAnyH_take (i := 8) (v := ?_) (by rw [List.getElem?_toArray]; rfl) (by kernel_rfl) (by kernel_rfl) (by kernel_rfl) (by intro _ _ _ h; exact h) (Or.inl ⟨by rfl, ?_⟩) (by assumption) ?_
  rotate_left
  · (intro w hSw; (try dsimp only at hSw); go_simp; all_goals with_reducible rfl)
  (try simp only [Act.put, List.setIfInBounds_toArray, List.set_cons_zero, List.set_cons_succ])
  refine wpAnyH_ready (rs := [4]) (by kernel_rfl) (by simp) ?_
  refine AllReadyH.cons (by rw [List.getElem?_toArray]; rfl) (fun K hK => ?_) AllReadyH.nil
  go_simp
  refine (CTn _).mono ?_; rintro ee vx ⟨rfl, hbl⟩; (replace XB := XB.trans (hbl.mono XB.size)); (clear hbl)
  (try go_wp2_with fail)
  refine hK.out _ _ ?_ (fun hHeld => ?_)
  · first | exact SK.out _ XB | exact SK.out _ (Below.drew (Below.refl _ _))
  clear hK K
  (try simp only [Act.put, List.setIfInBounds_toArray, List.set_cons_zero, List.set_cons_succ])
  refine wpAnyH_take (i := 5) (v := ?_) (by rw [List.getElem?_toArray]; rfl) (by kernel_rfl) (by kernel_rfl) (by kernel_rfl) (by intro _ _ _ h; exact h) (Or.inl ⟨by rfl, ?_⟩) (by assumption) ?_
  rotate_left
  · (intro w hSw; (try dsimp only at hSw); go_simp; all_goals with_reducible rfl)
  (try simp only [Act.put, List.setIfInBounds_toArray, List.set_cons_zero, List.set_cons_succ])
  refine wpAnyH_take (i := 6) (v := ?_) (by rw [List.getElem?_toArray]; rfl) (by kernel_rfl) (by kernel_rfl) (by kernel_rfl) (by intro _ _ _ h; exact h) (Or.inl ⟨by rfl, ?_⟩) (by assumption) ?_
  rotate_left
  · (intro w hSw; (try dsimp only at hSw); go_simp; all_goals with_reducible rfl)
  (try simp only [Act.put, List.setIfInBounds_toArray, List.set_cons_zero, List.set_cons_succ])
  refine wpAnyH_ready (rs := [9]) (by kernel_rfl) (by simp) ?_
  refine AllReadyH.cons (by rw [List.getElem?_toArray]; rfl) (fun K hK => ?_) AllReadyH.nil
  go_simp
  refine (CTc _).mono ?_; rintro ee vx ⟨rfl, hbl⟩; (replace XB := XB.trans (hbl.mono XB.size)); (clear hbl)
  (try go_wp2_with fail)
  refine hK.out _ _ ?_ (fun hHeld => ?_)
  · first | exact SK.out _ XB | exact SK.out _ (Below.drew (Below.refl _ _))
  clear hK K
  (try simp only [Act.put, List.setIfInBounds_toArray, List.set_cons_zero, List.set_cons_succ])
  refine wpAnyH_take (i := 10) (v := ?_) (by rw [List.getElem?_toArray]; rfl) (by kernel_rfl) (by kernel_rfl) (by kernel_rfl) (by intro _ _ _ h; exact h) (Or.inl ⟨by rfl, ?_⟩) (by assumption) ?_
  rotate_left
  · (intro w hSw; (try dsimp only at hSw); go_simp; all_goals with_reducible rfl)
  (try simp only [Act.put, List.setIfInBounds_toArray, List.set_cons_zero, List.set_cons_succ])
  refine wpAnyH_take (i := 11) (v := ?_) (by rw [List.getElem?_toArray]; rfl) (by kernel_rfl) (by kernel_rfl) (by kernel_rfl) (by intro _ _ _ h; exact h) (Or.inl ⟨by rfl, ?_⟩) (by assumption) ?_
  rotate_left
  · (intro w hSw; (try dsimp only at hSw); go_simp; all_goals with_reducible rfl)
  (try simp only [Act.put, List.setIfInBounds_toArray, List.set_cons_zero, List.set_cons_succ])
  refine wpAnyH_done (by kernel_rfl) ?_ _
  replace N := N.below XB
  replace B := B.trans (XB.mono B.size)
  clear SK XB a1 a2 a3 a4 c0 c1 c2 c3 c4 c5 c6 c7 c8 c9 hne CTn CTc hlt
  have HO : Hid (nm ++ ⟨#[32]⟩ ++ sn ++ ⟨#[32]⟩ ++ sc = Y) := HB.out.symm
  clear HB
  generalize (nm ++ ⟨#[32]⟩ ++ sn ++ ⟨#[32]⟩ ++ sc : ByteArray) = O at *
  have hzO := HZ.out
  clear HZ
  have a5 : ¬ 9223372036854775807 < O.size + 1 := by omega
  have a6 : ¬ 9223372036854775807 < O.size + 1 + sv.size := by omega
  have a7 : ¬ 9223372036854775807 < O.size + 1 + si.size := by omega
  have a8 : ¬ 9223372036854775807 < O.size + 1 + sv.size + 6 := by omega
  have e6 : (⟨#[32, 104, 111, 108, 100, 115]⟩ : ByteArray).size = 6 := rfl
  clear zv zi hzO
  have c0 : vx.cell? ⟨w.heap.size, 0, none⟩ = some (.int .i64 8) := N.cell (i := 0) rfl
  have c1 : vx.cell? ⟨w.heap.size, 1, none⟩ = some (.int .i64 nd) := N.cell (i := 1) rfl
  have c2 : vx.cell? ⟨w.heap.size, 2, none⟩ = some (.int .i64 cd) := N.cell (i := 2) rfl
  have c3 : vx.cell? ⟨w.heap.size, 3, none⟩ = some (.int .i64 v) := N.cell (i := 3) rfl
  have c4 : vx.cell? ⟨w.heap.size, 4, none⟩ = some (.bool hd) := N.cell (i := 4) rfl
  have c5 : vx.cell? ⟨w.heap.size, 5, none⟩ = some (.bool kn) := N.cell (i := 5) rfl
  have c6 : vx.cell? ⟨w.heap.size, 6, none⟩ = some (.int .i64 wl) := N.cell (i := 6) rfl
  have c7 : vx.cell? ⟨w.heap.size, 7, none⟩ = some (.int .i64 wh) := N.cell (i := 7) rfl
  have c8 : vx.cell? ⟨w.heap.size, 8, none⟩ = some (.int .i64 nl) := N.cell (i := 8) rfl
  have c9 : vx.cell? ⟨w.heap.size, 9, none⟩ = some (.int .i64 nh) := N.cell (i := 9) rfl
  by_cases hc : cd = 0
  rotate_left
  · have hc' : (cd != 0) = true := by simp [hc]
    clear CTv CTi
    go_wp2_with fail
    go_ret
    exact ⟨by rw [HX.out, if_pos hc, ← HO.out]; rfl, B⟩
  have hc' : (cd != 0) = false := by simp [hc]
  have HX2 : Hid (X = (if hd then Y ++ spB ++ sv ++ (spB ++ hoB) else Y ++ spB ++ sv)) := by (show X = _; rw [HX.out, if_neg (by simp [hc])])
  clear HX hc
  clear CTi
  go_wp2_with fail
  refine (CTv _).mono ?_
  rintro e x2 ⟨rfl, hb⟩
  replace N := N.below hb
  replace B := B.trans (hb.mono B.size)
  clear hb c0 c1 c2 c3 c4 c5 c6 c7 c8 c9
  have c0 : x2.cell? ⟨w.heap.size, 0, none⟩ = some (.int .i64 8) := N.cell (i := 0) rfl
  have c1 : x2.cell? ⟨w.heap.size, 1, none⟩ = some (.int .i64 nd) := N.cell (i := 1) rfl
  have c2 : x2.cell? ⟨w.heap.size, 2, none⟩ = some (.int .i64 cd) := N.cell (i := 2) rfl
  have c3 : x2.cell? ⟨w.heap.size, 3, none⟩ = some (.int .i64 v) := N.cell (i := 3) rfl
  have c4 : x2.cell? ⟨w.heap.size, 4, none⟩ = some (.bool hd) := N.cell (i := 4) rfl
  have c5 : x2.cell? ⟨w.heap.size, 5, none⟩ = some (.bool kn) := N.cell (i := 5) rfl
  have c6 : x2.cell? ⟨w.heap.size, 6, none⟩ = some (.int .i64 wl) := N.cell (i := 6) rfl
  have c7 : x2.cell? ⟨w.heap.size, 7, none⟩ = some (.int .i64 wh) := N.cell (i := 7) rfl
  have c8 : x2.cell? ⟨w.heap.size, 8, none⟩ = some (.int .i64 nl) := N.cell (i := 8) rfl
  have c9 : x2.cell? ⟨w.heap.size, 9, none⟩ = some (.int .i64 nh) := N.cell (i := 9) rfl
  cases hd
  all_goals (go_wp2_with fail)
  all_goals go_ret
  all_goals exact ⟨by rw [HX2.out, ← HO.out]; rfl, B⟩
set_option maxHeartbeats 8000000 in
set_option maxRecDepth 100000 in
theorem specTell_9 (nd cd v : Int) (hd kn : Bool) (wl wh nl nh : Int) (w : World) (g0 : -9223372036854775808 ≤ nd ∧ nd ≤ 9223372036854775807) (g1 : -9223372036854775808 ≤ cd ∧ cd ≤ 9223372036854775807) (g2 : -9223372036854775808 ≤ v ∧ v ≤ 9223372036854775807) (g3 : -9223372036854775808 ≤ nl ∧ nl ≤ 9223372036854775807) (g4 : -9223372036854775808 ≤ nh ∧ nh ≤ 9223372036854775807) :
    Calls Tryd.prog 42 #[.agg #[.int .i64 9, .int .i64 nd, .int .i64 cd, .int .i64 v, .bool hd, .bool kn, .int .i64 wl, .int .i64 wh, .int .i64 nl, .int .i64 nh]] w fun e w' => e = .returned (.string (tlB 9 nd cd v hd nl nh)) ∧ Below w.heap.size w w' := by
  have HX : Hid (tlB 9 nd cd v hd nl nh = if cd ≠ 0 then bsB 9 nd cd else bsB 9 nd cd ++ spB ++ txI v) := by (show tlB 9 nd cd v hd nl nh = _; unfold tlB; rw [if_neg (by omega), if_neg (by omega)]; rfl)
  have HB : Hid (bsB 9 nd cd = nmK 9 ++ spB ++ txI nd ++ spB ++ txI cd) := rfl
  have hne : (nmK 9).toList.isEmpty = false := by decide +kernel
  have CTn := fun u => specTextOf_any nd u g0.1 g0.2
  have CTc := fun u => specTextOf_any cd u g1.1 g1.2
  have CTv := fun u => specTextOf_any v u g2.1 g2.2
  have CTi := fun u => specIvalText_any nl nh u g3.1 g3.2 g4.1 g4.2
  have zn := txI_size' nd
  have zc := txI_size' cd
  have zv := txI_size' v
  have zi := ivT_size nl nh
  have zk := nmK_size 9
  clear g0 g1 g2 g3 g4
  generalize tlB 9 nd cd v hd nl nh = X at *
  generalize bsB 9 nd cd = Y at *
  generalize txI nd = sn at *
  generalize txI cd = sc at *
  generalize txI v = sv at *
  generalize ivT nl nh = si at *
  have e1 : (⟨#[32]⟩ : ByteArray).size = 1 := rfl
  have B := Below.nw w (.cells #[.int .i64 9, .int .i64 nd, .int .i64 cd, .int .i64 v, .bool hd, .bool kn, .int .i64 wl, .int .i64 wh, .int .i64 nl, .int .i64 nh] 66)
  have N := Bo.new w #[.int .i64 9, .int .i64 nd, .int .i64 cd, .int .i64 v, .bool hd, .bool kn, .int .i64 wl, .int .i64 wh, .int .i64 nl, .int .i64 nh] 66
  have CN := fun u => specName_any 9 u
  generalize nmK 9 = nm at *
  go_enter Tryd.func42, Tryd.ntmps42
  go_upto_region 1 with fail
  generalize w.alloc (.cells #[.int .i64 9, .int .i64 nd, .int .i64 cd, .int .i64 v, .bool hd, .bool kn, .int .i64 wl, .int .i64 wh, .int .i64 nl, .int .i64 nh] 66) = x0 at *
  have c0 : x0.cell? ⟨w.heap.size, 0, none⟩ = some (.int .i64 9) := N.cell (i := 0) rfl
  have c1 : x0.cell? ⟨w.heap.size, 1, none⟩ = some (.int .i64 nd) := N.cell (i := 1) rfl
  have c2 : x0.cell? ⟨w.heap.size, 2, none⟩ = some (.int .i64 cd) := N.cell (i := 2) rfl
  have c3 : x0.cell? ⟨w.heap.size, 3, none⟩ = some (.int .i64 v) := N.cell (i := 3) rfl
  have c4 : x0.cell? ⟨w.heap.size, 4, none⟩ = some (.bool hd) := N.cell (i := 4) rfl
  have c5 : x0.cell? ⟨w.heap.size, 5, none⟩ = some (.bool kn) := N.cell (i := 5) rfl
  have c6 : x0.cell? ⟨w.heap.size, 6, none⟩ = some (.int .i64 wl) := N.cell (i := 6) rfl
  have c7 : x0.cell? ⟨w.heap.size, 7, none⟩ = some (.int .i64 wh) := N.cell (i := 7) rfl
  have c8 : x0.cell? ⟨w.heap.size, 8, none⟩ = some (.int .i64 nl) := N.cell (i := 8) rfl
  have c9 : x0.cell? ⟨w.heap.size, 9, none⟩ = some (.int .i64 nh) := N.cell (i := 9) rfl
  go_wp2_with fail
  refine (CN _).mono ?_
  rintro e x1 ⟨rfl, hb⟩
  replace N := N.below hb
  replace B := B.trans (hb.mono B.size)
  clear hb CN c0 c1 c2 c3 c4 c5 c6 c7 c8 c9
  have c0 : x1.cell? ⟨w.heap.size, 0, none⟩ = some (.int .i64 9) := N.cell (i := 0) rfl
  have c1 : x1.cell? ⟨w.heap.size, 1, none⟩ = some (.int .i64 nd) := N.cell (i := 1) rfl
  have c2 : x1.cell? ⟨w.heap.size, 2, none⟩ = some (.int .i64 cd) := N.cell (i := 2) rfl
  have c3 : x1.cell? ⟨w.heap.size, 3, none⟩ = some (.int .i64 v) := N.cell (i := 3) rfl
  have c4 : x1.cell? ⟨w.heap.size, 4, none⟩ = some (.bool hd) := N.cell (i := 4) rfl
  have c5 : x1.cell? ⟨w.heap.size, 5, none⟩ = some (.bool kn) := N.cell (i := 5) rfl
  have c6 : x1.cell? ⟨w.heap.size, 6, none⟩ = some (.int .i64 wl) := N.cell (i := 6) rfl
  have c7 : x1.cell? ⟨w.heap.size, 7, none⟩ = some (.int .i64 wh) := N.cell (i := 7) rfl
  have c8 : x1.cell? ⟨w.heap.size, 8, none⟩ = some (.int .i64 nl) := N.cell (i := 8) rfl
  have c9 : x1.cell? ⟨w.heap.size, 9, none⟩ = some (.int .i64 nh) := N.cell (i := 9) rfl
  have a1 : ¬ 9223372036854775807 < nm.size + 1 := by omega
  have a2 : ¬ 9223372036854775807 < nm.size + 1 + sn.size := by omega
  have a3 : ¬ 9223372036854775807 < nm.size + 1 + sn.size + 1 := by omega
  have a4 : ¬ 9223372036854775807 < nm.size + 1 + sn.size + 1 + sc.size := by omega
  have hlt := N.1
  have HZ : Hid ((nm ++ ⟨#[32]⟩ ++ sn ++ ⟨#[32]⟩ ++ sc : ByteArray).size ≤ 52) := by (show (nm ++ ⟨#[32]⟩ ++ sn ++ ⟨#[32]⟩ ++ sc : ByteArray).size ≤ 52; simp only [ByteArray.size_append, e1]; omega)
  clear zn zc zk
  go_upto_region 11 with fail
  have SK : Hid (∀ w', Below x1.heap.size x1 w' → (fun w' => w'.cell? ⟨w.heap.size, 1, none⟩ = some (.int .i64 nd) ∧ w'.cell? ⟨w.heap.size, 2, none⟩ = some (.int .i64 cd)) w') := fun w' h => ⟨by rw [h.cell (p := ⟨w.heap.size, 1, none⟩) hlt]; exact c1, by rw [h.cell (p := ⟨w.heap.size, 2, none⟩) hlt]; exact c2⟩
  refine wp_region_held_drew (S := (fun w' => w'.cell? ⟨w.heap.size, 1, none⟩ = some (.int .i64 nd) ∧ w'.cell? ⟨w.heap.size, 2, none⟩ = some (.int .i64 cd))) (by kernel_rfl) ?_ (fun hHeld => ?_)
  · first | exact SK.out _ XB | exact SK.out _ (Below.drew (Below.refl _ _))
  have XB : Below x1.heap.size x1 x1.drew := Below.drew (Below.refl _ _)
  generalize x1.drew = vx at *
  refine wpAnyH_take (i := 0) (v := ?_) (by rw [List.getElem?_toArray]; rfl) (by kernel_rfl) (by kernel_rfl) (by kernel_rfl) (by intro _ _ _ h; exact h) (Or.inl ⟨by rfl, ?_⟩) (by assumption) ?_
  rotate_left
  · (intro w hSw; (try dsimp only at hSw); go_simp; all_goals with_reducible rfl)
  (try simp only [Act.put, List.setIfInBounds_toArray, List.set_cons_zero, List.set_cons_succ])
  refine wpAnyH_take (i := 1) (v := ?_) (by rw [List.getElem?_toArray]; rfl) (by kernel_rfl) (by kernel_rfl) (by kernel_rfl) (by intro _ _ _ h; exact h) (Or.inl ⟨by rfl, ?_⟩) (by assumption) ?_
  rotate_left
  · (intro w hSw; (try dsimp only at hSw); go_simp; all_goals with_reducible rfl)
  (try simp only [Act.put, List.setIfInBounds_toArray, List.set_cons_zero, List.set_cons_succ])
  refine wpAnyH_take (i := 2) (v := ?_) (by rw [List.getElem?_toArray]; rfl) (by kernel_rfl) (by kernel_rfl) (by kernel_rfl) (by intro _ _ _ h; exact h) (Or.inl ⟨by rfl, ?_⟩) (by assumption) ?_
  rotate_left
  · (intro w hSw; (try dsimp only at hSw); go_simp; all_goals with_reducible rfl)
  (try simp only [Act.put, List.setIfInBounds_toArray, List.set_cons_zero, List.set_cons_succ])
  refine wpAnyH_take (i := 3) (v := ?_) (by rw [List.getElem?_toArray]; rfl) (by kernel_rfl) (by kernel_rfl) (by kernel_rfl) (by intro _ _ _ h; exact h) (Or.inl ⟨by rfl, ?_⟩) (by assumption) ?_
  rotate_left
  · (intro w hSw; (try dsimp only at hSw); go_simp; all_goals with_reducible rfl)
  (try simp only [Act.put, List.setIfInBounds_toArray, List.set_cons_zero, List.set_cons_succ])
  refine wpAnyH_take (i := 7) (v := ?_) (by rw [List.getElem?_toArray]; rfl) (by kernel_rfl) (by kernel_rfl) (by kernel_rfl) (by intro _ _ _ h; exact h) (Or.inl ⟨by rfl, ?_⟩) (by assumption) ?_
  rotate_left
  · (intro w hSw; (try dsimp only at hSw); go_simp; all_goals with_reducible rfl)
  (try simp only [Act.put, List.setIfInBounds_toArray, List.set_cons_zero, List.set_cons_succ])
  refine wpAnyH_take (i := 8) (v := ?_) (by rw [List.getElem?_toArray]; rfl) (by kernel_rfl) (by kernel_rfl) (by kernel_rfl) (by intro _ _ _ h; exact h) (Or.inl ⟨by rfl, ?_⟩) (by assumption) ?_
  rotate_left
  · (intro w hSw; (try dsimp only at hSw); go_simp; all_goals with_reducible rfl)
  (try simp only [Act.put, List.setIfInBounds_toArray, List.set_cons_zero, List.set_cons_succ])
  refine wpAnyH_ready (rs := [4]) (by kernel_rfl) (by simp) ?_
  refine AllReadyH.cons (by rw [List.getElem?_toArray]; rfl) (fun K hK => ?_) AllReadyH.nil
  go_simp
  refine (CTn _).mono ?_; rintro ee vx ⟨rfl, hbl⟩; (replace XB := XB.trans (hbl.mono XB.size)); (clear hbl)
  (try go_wp2_with fail)
  refine hK.out _ _ ?_ (fun hHeld => ?_)
  · first | exact SK.out _ XB | exact SK.out _ (Below.drew (Below.refl _ _))
  clear hK K
  (try simp only [Act.put, List.setIfInBounds_toArray, List.set_cons_zero, List.set_cons_succ])
  refine wpAnyH_take (i := 5) (v := ?_) (by rw [List.getElem?_toArray]; rfl) (by kernel_rfl) (by kernel_rfl) (by kernel_rfl) (by intro _ _ _ h; exact h) (Or.inl ⟨by rfl, ?_⟩) (by assumption) ?_
  rotate_left
  · (intro w hSw; (try dsimp only at hSw); go_simp; all_goals with_reducible rfl)
  (try simp only [Act.put, List.setIfInBounds_toArray, List.set_cons_zero, List.set_cons_succ])
  refine wpAnyH_take (i := 6) (v := ?_) (by rw [List.getElem?_toArray]; rfl) (by kernel_rfl) (by kernel_rfl) (by kernel_rfl) (by intro _ _ _ h; exact h) (Or.inl ⟨by rfl, ?_⟩) (by assumption) ?_
  rotate_left
  · (intro w hSw; (try dsimp only at hSw); go_simp; all_goals with_reducible rfl)
  (try simp only [Act.put, List.setIfInBounds_toArray, List.set_cons_zero, List.set_cons_succ])
  refine wpAnyH_ready (rs := [9]) (by kernel_rfl) (by simp) ?_
  refine AllReadyH.cons (by rw [List.getElem?_toArray]; rfl) (fun K hK => ?_) AllReadyH.nil
  go_simp
  refine (CTc _).mono ?_; rintro ee vx ⟨rfl, hbl⟩; (replace XB := XB.trans (hbl.mono XB.size)); (clear hbl)
  (try go_wp2_with fail)
  refine hK.out _ _ ?_ (fun hHeld => ?_)
  · first | exact SK.out _ XB | exact SK.out _ (Below.drew (Below.refl _ _))
  clear hK K
  (try simp only [Act.put, List.setIfInBounds_toArray, List.set_cons_zero, List.set_cons_succ])
  refine wpAnyH_take (i := 10) (v := ?_) (by rw [List.getElem?_toArray]; rfl) (by kernel_rfl) (by kernel_rfl) (by kernel_rfl) (by intro _ _ _ h; exact h) (Or.inl ⟨by rfl, ?_⟩) (by assumption) ?_
  rotate_left
  · (intro w hSw; (try dsimp only at hSw); go_simp; all_goals with_reducible rfl)
  (try simp only [Act.put, List.setIfInBounds_toArray, List.set_cons_zero, List.set_cons_succ])
  refine wpAnyH_take (i := 11) (v := ?_) (by rw [List.getElem?_toArray]; rfl) (by kernel_rfl) (by kernel_rfl) (by kernel_rfl) (by intro _ _ _ h; exact h) (Or.inl ⟨by rfl, ?_⟩) (by assumption) ?_
  rotate_left
  · (intro w hSw; (try dsimp only at hSw); go_simp; all_goals with_reducible rfl)
  (try simp only [Act.put, List.setIfInBounds_toArray, List.set_cons_zero, List.set_cons_succ])
  refine wpAnyH_done (by kernel_rfl) ?_ _
  replace N := N.below XB
  replace B := B.trans (XB.mono B.size)
  clear SK XB a1 a2 a3 a4 c0 c1 c2 c3 c4 c5 c6 c7 c8 c9 hne CTn CTc hlt
  have HO : Hid (nm ++ ⟨#[32]⟩ ++ sn ++ ⟨#[32]⟩ ++ sc = Y) := HB.out.symm
  clear HB
  generalize (nm ++ ⟨#[32]⟩ ++ sn ++ ⟨#[32]⟩ ++ sc : ByteArray) = O at *
  have hzO := HZ.out
  clear HZ
  have a5 : ¬ 9223372036854775807 < O.size + 1 := by omega
  have a6 : ¬ 9223372036854775807 < O.size + 1 + sv.size := by omega
  have a7 : ¬ 9223372036854775807 < O.size + 1 + si.size := by omega
  have a8 : ¬ 9223372036854775807 < O.size + 1 + sv.size + 6 := by omega
  have e6 : (⟨#[32, 104, 111, 108, 100, 115]⟩ : ByteArray).size = 6 := rfl
  clear zv zi hzO
  have c0 : vx.cell? ⟨w.heap.size, 0, none⟩ = some (.int .i64 9) := N.cell (i := 0) rfl
  have c1 : vx.cell? ⟨w.heap.size, 1, none⟩ = some (.int .i64 nd) := N.cell (i := 1) rfl
  have c2 : vx.cell? ⟨w.heap.size, 2, none⟩ = some (.int .i64 cd) := N.cell (i := 2) rfl
  have c3 : vx.cell? ⟨w.heap.size, 3, none⟩ = some (.int .i64 v) := N.cell (i := 3) rfl
  have c4 : vx.cell? ⟨w.heap.size, 4, none⟩ = some (.bool hd) := N.cell (i := 4) rfl
  have c5 : vx.cell? ⟨w.heap.size, 5, none⟩ = some (.bool kn) := N.cell (i := 5) rfl
  have c6 : vx.cell? ⟨w.heap.size, 6, none⟩ = some (.int .i64 wl) := N.cell (i := 6) rfl
  have c7 : vx.cell? ⟨w.heap.size, 7, none⟩ = some (.int .i64 wh) := N.cell (i := 7) rfl
  have c8 : vx.cell? ⟨w.heap.size, 8, none⟩ = some (.int .i64 nl) := N.cell (i := 8) rfl
  have c9 : vx.cell? ⟨w.heap.size, 9, none⟩ = some (.int .i64 nh) := N.cell (i := 9) rfl
  by_cases hc : cd = 0
  rotate_left
  · have hc' : (cd != 0) = true := by simp [hc]
    clear CTv CTi
    go_wp2_with fail
    go_ret
    exact ⟨by rw [HX.out, if_pos hc, ← HO.out]; rfl, B⟩
  have hc' : (cd != 0) = false := by simp [hc]
  have HX2 : Hid (X = Y ++ spB ++ sv) := by (show X = _; rw [HX.out, if_neg (by simp [hc])])
  clear HX hc
  clear CTi
  go_wp2_with fail
  refine (CTv _).mono ?_
  rintro e x2 ⟨rfl, hb⟩
  go_wp2_with fail
  go_ret
  exact ⟨by rw [HX2.out, ← HO.out]; rfl, B.trans (hb.mono B.size)⟩
set_option maxHeartbeats 8000000 in
set_option maxRecDepth 100000 in
theorem specTell_10 (nd cd v : Int) (hd kn : Bool) (wl wh nl nh : Int) (w : World) (g0 : -9223372036854775808 ≤ nd ∧ nd ≤ 9223372036854775807) (g1 : -9223372036854775808 ≤ cd ∧ cd ≤ 9223372036854775807) (g2 : -9223372036854775808 ≤ v ∧ v ≤ 9223372036854775807) (g3 : -9223372036854775808 ≤ nl ∧ nl ≤ 9223372036854775807) (g4 : -9223372036854775808 ≤ nh ∧ nh ≤ 9223372036854775807) :
    Calls Tryd.prog 42 #[.agg #[.int .i64 10, .int .i64 nd, .int .i64 cd, .int .i64 v, .bool hd, .bool kn, .int .i64 wl, .int .i64 wh, .int .i64 nl, .int .i64 nh]] w fun e w' => e = .returned (.string (tlB 10 nd cd v hd nl nh)) ∧ Below w.heap.size w w' := by
  have HX : Hid (tlB 10 nd cd v hd nl nh = if cd ≠ 0 then bsB 10 nd cd else bsB 10 nd cd) := by (show tlB 10 nd cd v hd nl nh = _; unfold tlB; rw [if_neg (by omega), if_neg (by omega)]; rfl)
  have HB : Hid (bsB 10 nd cd = nmK 10 ++ spB ++ txI nd ++ spB ++ txI cd) := rfl
  have hne : (nmK 10).toList.isEmpty = false := by decide +kernel
  have CTn := fun u => specTextOf_any nd u g0.1 g0.2
  have CTc := fun u => specTextOf_any cd u g1.1 g1.2
  have CTv := fun u => specTextOf_any v u g2.1 g2.2
  have CTi := fun u => specIvalText_any nl nh u g3.1 g3.2 g4.1 g4.2
  have zn := txI_size' nd
  have zc := txI_size' cd
  have zv := txI_size' v
  have zi := ivT_size nl nh
  have zk := nmK_size 10
  clear g0 g1 g2 g3 g4
  generalize tlB 10 nd cd v hd nl nh = X at *
  generalize bsB 10 nd cd = Y at *
  generalize txI nd = sn at *
  generalize txI cd = sc at *
  generalize txI v = sv at *
  generalize ivT nl nh = si at *
  have e1 : (⟨#[32]⟩ : ByteArray).size = 1 := rfl
  have B := Below.nw w (.cells #[.int .i64 10, .int .i64 nd, .int .i64 cd, .int .i64 v, .bool hd, .bool kn, .int .i64 wl, .int .i64 wh, .int .i64 nl, .int .i64 nh] 66)
  have N := Bo.new w #[.int .i64 10, .int .i64 nd, .int .i64 cd, .int .i64 v, .bool hd, .bool kn, .int .i64 wl, .int .i64 wh, .int .i64 nl, .int .i64 nh] 66
  have CN := fun u => specName_any 10 u
  generalize nmK 10 = nm at *
  go_enter Tryd.func42, Tryd.ntmps42
  go_upto_region 1 with fail
  generalize w.alloc (.cells #[.int .i64 10, .int .i64 nd, .int .i64 cd, .int .i64 v, .bool hd, .bool kn, .int .i64 wl, .int .i64 wh, .int .i64 nl, .int .i64 nh] 66) = x0 at *
  have c0 : x0.cell? ⟨w.heap.size, 0, none⟩ = some (.int .i64 10) := N.cell (i := 0) rfl
  have c1 : x0.cell? ⟨w.heap.size, 1, none⟩ = some (.int .i64 nd) := N.cell (i := 1) rfl
  have c2 : x0.cell? ⟨w.heap.size, 2, none⟩ = some (.int .i64 cd) := N.cell (i := 2) rfl
  have c3 : x0.cell? ⟨w.heap.size, 3, none⟩ = some (.int .i64 v) := N.cell (i := 3) rfl
  have c4 : x0.cell? ⟨w.heap.size, 4, none⟩ = some (.bool hd) := N.cell (i := 4) rfl
  have c5 : x0.cell? ⟨w.heap.size, 5, none⟩ = some (.bool kn) := N.cell (i := 5) rfl
  have c6 : x0.cell? ⟨w.heap.size, 6, none⟩ = some (.int .i64 wl) := N.cell (i := 6) rfl
  have c7 : x0.cell? ⟨w.heap.size, 7, none⟩ = some (.int .i64 wh) := N.cell (i := 7) rfl
  have c8 : x0.cell? ⟨w.heap.size, 8, none⟩ = some (.int .i64 nl) := N.cell (i := 8) rfl
  have c9 : x0.cell? ⟨w.heap.size, 9, none⟩ = some (.int .i64 nh) := N.cell (i := 9) rfl
  go_wp2_with fail
  refine (CN _).mono ?_
  rintro e x1 ⟨rfl, hb⟩
  replace N := N.below hb
  replace B := B.trans (hb.mono B.size)
  clear hb CN c0 c1 c2 c3 c4 c5 c6 c7 c8 c9
  have c0 : x1.cell? ⟨w.heap.size, 0, none⟩ = some (.int .i64 10) := N.cell (i := 0) rfl
  have c1 : x1.cell? ⟨w.heap.size, 1, none⟩ = some (.int .i64 nd) := N.cell (i := 1) rfl
  have c2 : x1.cell? ⟨w.heap.size, 2, none⟩ = some (.int .i64 cd) := N.cell (i := 2) rfl
  have c3 : x1.cell? ⟨w.heap.size, 3, none⟩ = some (.int .i64 v) := N.cell (i := 3) rfl
  have c4 : x1.cell? ⟨w.heap.size, 4, none⟩ = some (.bool hd) := N.cell (i := 4) rfl
  have c5 : x1.cell? ⟨w.heap.size, 5, none⟩ = some (.bool kn) := N.cell (i := 5) rfl
  have c6 : x1.cell? ⟨w.heap.size, 6, none⟩ = some (.int .i64 wl) := N.cell (i := 6) rfl
  have c7 : x1.cell? ⟨w.heap.size, 7, none⟩ = some (.int .i64 wh) := N.cell (i := 7) rfl
  have c8 : x1.cell? ⟨w.heap.size, 8, none⟩ = some (.int .i64 nl) := N.cell (i := 8) rfl
  have c9 : x1.cell? ⟨w.heap.size, 9, none⟩ = some (.int .i64 nh) := N.cell (i := 9) rfl
  have a1 : ¬ 9223372036854775807 < nm.size + 1 := by omega
  have a2 : ¬ 9223372036854775807 < nm.size + 1 + sn.size := by omega
  have a3 : ¬ 9223372036854775807 < nm.size + 1 + sn.size + 1 := by omega
  have a4 : ¬ 9223372036854775807 < nm.size + 1 + sn.size + 1 + sc.size := by omega
  have hlt := N.1
  have HZ : Hid ((nm ++ ⟨#[32]⟩ ++ sn ++ ⟨#[32]⟩ ++ sc : ByteArray).size ≤ 52) := by (show (nm ++ ⟨#[32]⟩ ++ sn ++ ⟨#[32]⟩ ++ sc : ByteArray).size ≤ 52; simp only [ByteArray.size_append, e1]; omega)
  clear zn zc zk
  go_upto_region 11 with fail
  have SK : Hid (∀ w', Below x1.heap.size x1 w' → (fun w' => w'.cell? ⟨w.heap.size, 1, none⟩ = some (.int .i64 nd) ∧ w'.cell? ⟨w.heap.size, 2, none⟩ = some (.int .i64 cd)) w') := fun w' h => ⟨by rw [h.cell (p := ⟨w.heap.size, 1, none⟩) hlt]; exact c1, by rw [h.cell (p := ⟨w.heap.size, 2, none⟩) hlt]; exact c2⟩
  refine wp_region_held_drew (S := (fun w' => w'.cell? ⟨w.heap.size, 1, none⟩ = some (.int .i64 nd) ∧ w'.cell? ⟨w.heap.size, 2, none⟩ = some (.int .i64 cd))) (by kernel_rfl) ?_ (fun hHeld => ?_)
  · first | exact SK.out _ XB | exact SK.out _ (Below.drew (Below.refl _ _))
  have XB : Below x1.heap.size x1 x1.drew := Below.drew (Below.refl _ _)
  generalize x1.drew = vx at *
  refine wpAnyH_take (i := 0) (v := ?_) (by rw [List.getElem?_toArray]; rfl) (by kernel_rfl) (by kernel_rfl) (by kernel_rfl) (by intro _ _ _ h; exact h) (Or.inl ⟨by rfl, ?_⟩) (by assumption) ?_
  rotate_left
  · (intro w hSw; (try dsimp only at hSw); go_simp; all_goals with_reducible rfl)
  (try simp only [Act.put, List.setIfInBounds_toArray, List.set_cons_zero, List.set_cons_succ])
  refine wpAnyH_take (i := 1) (v := ?_) (by rw [List.getElem?_toArray]; rfl) (by kernel_rfl) (by kernel_rfl) (by kernel_rfl) (by intro _ _ _ h; exact h) (Or.inl ⟨by rfl, ?_⟩) (by assumption) ?_
  rotate_left
  · (intro w hSw; (try dsimp only at hSw); go_simp; all_goals with_reducible rfl)
  (try simp only [Act.put, List.setIfInBounds_toArray, List.set_cons_zero, List.set_cons_succ])
  refine wpAnyH_take (i := 2) (v := ?_) (by rw [List.getElem?_toArray]; rfl) (by kernel_rfl) (by kernel_rfl) (by kernel_rfl) (by intro _ _ _ h; exact h) (Or.inl ⟨by rfl, ?_⟩) (by assumption) ?_
  rotate_left
  · (intro w hSw; (try dsimp only at hSw); go_simp; all_goals with_reducible rfl)
  (try simp only [Act.put, List.setIfInBounds_toArray, List.set_cons_zero, List.set_cons_succ])
  refine wpAnyH_take (i := 3) (v := ?_) (by rw [List.getElem?_toArray]; rfl) (by kernel_rfl) (by kernel_rfl) (by kernel_rfl) (by intro _ _ _ h; exact h) (Or.inl ⟨by rfl, ?_⟩) (by assumption) ?_
  rotate_left
  · (intro w hSw; (try dsimp only at hSw); go_simp; all_goals with_reducible rfl)
  (try simp only [Act.put, List.setIfInBounds_toArray, List.set_cons_zero, List.set_cons_succ])
  refine wpAnyH_take (i := 7) (v := ?_) (by rw [List.getElem?_toArray]; rfl) (by kernel_rfl) (by kernel_rfl) (by kernel_rfl) (by intro _ _ _ h; exact h) (Or.inl ⟨by rfl, ?_⟩) (by assumption) ?_
  rotate_left
  · (intro w hSw; (try dsimp only at hSw); go_simp; all_goals with_reducible rfl)
  (try simp only [Act.put, List.setIfInBounds_toArray, List.set_cons_zero, List.set_cons_succ])
  refine wpAnyH_take (i := 8) (v := ?_) (by rw [List.getElem?_toArray]; rfl) (by kernel_rfl) (by kernel_rfl) (by kernel_rfl) (by intro _ _ _ h; exact h) (Or.inl ⟨by rfl, ?_⟩) (by assumption) ?_
  rotate_left
  · (intro w hSw; (try dsimp only at hSw); go_simp; all_goals with_reducible rfl)
  (try simp only [Act.put, List.setIfInBounds_toArray, List.set_cons_zero, List.set_cons_succ])
  refine wpAnyH_ready (rs := [4]) (by kernel_rfl) (by simp) ?_
  refine AllReadyH.cons (by rw [List.getElem?_toArray]; rfl) (fun K hK => ?_) AllReadyH.nil
  go_simp
  refine (CTn _).mono ?_; rintro ee vx ⟨rfl, hbl⟩; (replace XB := XB.trans (hbl.mono XB.size)); (clear hbl)
  (try go_wp2_with fail)
  refine hK.out _ _ ?_ (fun hHeld => ?_)
  · first | exact SK.out _ XB | exact SK.out _ (Below.drew (Below.refl _ _))
  clear hK K
  (try simp only [Act.put, List.setIfInBounds_toArray, List.set_cons_zero, List.set_cons_succ])
  refine wpAnyH_take (i := 5) (v := ?_) (by rw [List.getElem?_toArray]; rfl) (by kernel_rfl) (by kernel_rfl) (by kernel_rfl) (by intro _ _ _ h; exact h) (Or.inl ⟨by rfl, ?_⟩) (by assumption) ?_
  rotate_left
  · (intro w hSw; (try dsimp only at hSw); go_simp; all_goals with_reducible rfl)
  (try simp only [Act.put, List.setIfInBounds_toArray, List.set_cons_zero, List.set_cons_succ])
  refine wpAnyH_take (i := 6) (v := ?_) (by rw [List.getElem?_toArray]; rfl) (by kernel_rfl) (by kernel_rfl) (by kernel_rfl) (by intro _ _ _ h; exact h) (Or.inl ⟨by rfl, ?_⟩) (by assumption) ?_
  rotate_left
  · (intro w hSw; (try dsimp only at hSw); go_simp; all_goals with_reducible rfl)
  (try simp only [Act.put, List.setIfInBounds_toArray, List.set_cons_zero, List.set_cons_succ])
  refine wpAnyH_ready (rs := [9]) (by kernel_rfl) (by simp) ?_
  refine AllReadyH.cons (by rw [List.getElem?_toArray]; rfl) (fun K hK => ?_) AllReadyH.nil
  go_simp
  refine (CTc _).mono ?_; rintro ee vx ⟨rfl, hbl⟩; (replace XB := XB.trans (hbl.mono XB.size)); (clear hbl)
  (try go_wp2_with fail)
  refine hK.out _ _ ?_ (fun hHeld => ?_)
  · first | exact SK.out _ XB | exact SK.out _ (Below.drew (Below.refl _ _))
  clear hK K
  (try simp only [Act.put, List.setIfInBounds_toArray, List.set_cons_zero, List.set_cons_succ])
  refine wpAnyH_take (i := 10) (v := ?_) (by rw [List.getElem?_toArray]; rfl) (by kernel_rfl) (by kernel_rfl) (by kernel_rfl) (by intro _ _ _ h; exact h) (Or.inl ⟨by rfl, ?_⟩) (by assumption) ?_
  rotate_left
  · (intro w hSw; (try dsimp only at hSw); go_simp; all_goals with_reducible rfl)
  (try simp only [Act.put, List.setIfInBounds_toArray, List.set_cons_zero, List.set_cons_succ])
  refine wpAnyH_take (i := 11) (v := ?_) (by rw [List.getElem?_toArray]; rfl) (by kernel_rfl) (by kernel_rfl) (by kernel_rfl) (by intro _ _ _ h; exact h) (Or.inl ⟨by rfl, ?_⟩) (by assumption) ?_
  rotate_left
  · (intro w hSw; (try dsimp only at hSw); go_simp; all_goals with_reducible rfl)
  (try simp only [Act.put, List.setIfInBounds_toArray, List.set_cons_zero, List.set_cons_succ])
  refine wpAnyH_done (by kernel_rfl) ?_ _
  replace N := N.below XB
  replace B := B.trans (XB.mono B.size)
  clear SK XB a1 a2 a3 a4 c0 c1 c2 c3 c4 c5 c6 c7 c8 c9 hne CTn CTc hlt
  have HO : Hid (nm ++ ⟨#[32]⟩ ++ sn ++ ⟨#[32]⟩ ++ sc = Y) := HB.out.symm
  clear HB
  generalize (nm ++ ⟨#[32]⟩ ++ sn ++ ⟨#[32]⟩ ++ sc : ByteArray) = O at *
  have hzO := HZ.out
  clear HZ
  have a5 : ¬ 9223372036854775807 < O.size + 1 := by omega
  have a6 : ¬ 9223372036854775807 < O.size + 1 + sv.size := by omega
  have a7 : ¬ 9223372036854775807 < O.size + 1 + si.size := by omega
  have a8 : ¬ 9223372036854775807 < O.size + 1 + sv.size + 6 := by omega
  have e6 : (⟨#[32, 104, 111, 108, 100, 115]⟩ : ByteArray).size = 6 := rfl
  clear zv zi hzO
  have c0 : vx.cell? ⟨w.heap.size, 0, none⟩ = some (.int .i64 10) := N.cell (i := 0) rfl
  have c1 : vx.cell? ⟨w.heap.size, 1, none⟩ = some (.int .i64 nd) := N.cell (i := 1) rfl
  have c2 : vx.cell? ⟨w.heap.size, 2, none⟩ = some (.int .i64 cd) := N.cell (i := 2) rfl
  have c3 : vx.cell? ⟨w.heap.size, 3, none⟩ = some (.int .i64 v) := N.cell (i := 3) rfl
  have c4 : vx.cell? ⟨w.heap.size, 4, none⟩ = some (.bool hd) := N.cell (i := 4) rfl
  have c5 : vx.cell? ⟨w.heap.size, 5, none⟩ = some (.bool kn) := N.cell (i := 5) rfl
  have c6 : vx.cell? ⟨w.heap.size, 6, none⟩ = some (.int .i64 wl) := N.cell (i := 6) rfl
  have c7 : vx.cell? ⟨w.heap.size, 7, none⟩ = some (.int .i64 wh) := N.cell (i := 7) rfl
  have c8 : vx.cell? ⟨w.heap.size, 8, none⟩ = some (.int .i64 nl) := N.cell (i := 8) rfl
  have c9 : vx.cell? ⟨w.heap.size, 9, none⟩ = some (.int .i64 nh) := N.cell (i := 9) rfl
  by_cases hc : cd = 0
  rotate_left
  · have hc' : (cd != 0) = true := by simp [hc]
    clear CTv CTi
    go_wp2_with fail
    go_ret
    exact ⟨by rw [HX.out, if_pos hc, ← HO.out]; rfl, B⟩
  have hc' : (cd != 0) = false := by simp [hc]
  have HX2 : Hid (X = Y) := by (show X = _; rw [HX.out, if_neg (by simp [hc])])
  clear HX hc
  clear CTv CTi
  go_wp2_with fail
  go_ret
  exact ⟨by rw [HX2.out, ← HO.out]; rfl, B⟩
theorem specTellLine_any (k : Int) (nd cd v : Int) (hd kn : Bool) (wl wh nl nh : Int) (w : World) (g0 : -9223372036854775808 ≤ nd ∧ nd ≤ 9223372036854775807) (g1 : -9223372036854775808 ≤ cd ∧ cd ≤ 9223372036854775807) (g2 : -9223372036854775808 ≤ v ∧ v ≤ 9223372036854775807) (g3 : -9223372036854775808 ≤ nl ∧ nl ≤ 9223372036854775807) (g4 : -9223372036854775808 ≤ nh ∧ nh ≤ 9223372036854775807) :
    Calls Tryd.prog 42 #[.agg #[.int .i64 k, .int .i64 nd, .int .i64 cd, .int .i64 v, .bool hd, .bool kn, .int .i64 wl, .int .i64 wh, .int .i64 nl, .int .i64 nh]] w fun e w' => e = .returned (.string (tlB k nd cd v hd nl nh)) ∧ Below w.heap.size w w' := by
  by_cases hk : k < 1 ∨ 14 < k
  · exact specTell_no k hk nd cd v hd kn wl wh nl nh w g0 g1 g2 g3 g4
  rcases (show k = 1 ∨ k = 2 ∨ k = 3 ∨ k = 4 ∨ k = 5 ∨ k = 6 ∨ k = 7 ∨ k = 8 ∨ k = 9 ∨ k = 10 ∨ k = 11 ∨ k = 12 ∨ k = 13 ∨ k = 14 by omega) with rfl | rfl | rfl | rfl | rfl | rfl | rfl | rfl | rfl | rfl | rfl | rfl | rfl | rfl
  · exact specTell_1 nd cd v hd kn wl wh nl nh w g0 g1 g2 g3 g4
  · exact specTell_2 nd cd v hd kn wl wh nl nh w g0 g1 g2 g3 g4
  · exact specTell_3 nd cd v hd kn wl wh nl nh w g0 g1 g2 g3 g4
  · exact specTell_4 nd cd v hd kn wl wh nl nh w g0 g1 g2 g3 g4
  · exact specTell_5 nd cd v hd kn wl wh nl nh w g0 g1 g2 g3 g4
  · exact specTell_6 nd cd v hd kn wl wh nl nh w g0 g1 g2 g3 g4
  · exact specTell_7 nd cd v hd kn wl wh nl nh w g0 g1 g2 g3 g4
  · exact specTell_8 nd cd v hd kn wl wh nl nh w g0 g1 g2 g3 g4
  · exact specTell_9 nd cd v hd kn wl wh nl nh w g0 g1 g2 g3 g4
  · exact specTell_10 nd cd v hd kn wl wh nl nh w g0 g1 g2 g3 g4
  · exact specTell_11 nd cd v hd kn wl wh nl nh w g0 g1 g2 g3 g4
  · exact specTell_12 nd cd v hd kn wl wh nl nh w g0 g1 g2 g3 g4
  · exact specTell_13 nd cd v hd kn wl wh nl nh w g0 g1 g2 g3 g4
  · exact specTell_14 nd cd v hd kn wl wh nl nh w g0 g1 g2 g3 g4
end Go.Proofs.YtddjiamollfplaaDoor
