/- RateBroken in the specification. -/
import Derived.Test.YtjefbjjhdpidiaaDoorF116
import Derived.Test.YtjefbjjhdpidiaaDoorF117
import Derived.Deep.RegionHeld3
import Derived.WalkKit
import Derived.WalkSpells
import Derived.WalkLawsBesides
import Derived.Deep.RegionHeld
namespace Go.Proofs.YtjefbjjhdpidiaaDoor
open Go.RowKit
set_option linter.unusedVariables false
/- Whether what two rates have in common is nothing. -/
def brB (n d al ah ca bl bh cb : Int) : Bool := roB al ah ca bl bh cb && okD n d && !mtB (roX al ah ca bl bh cb) (roY al ah ca bl bh cb) (roZ al ah ca bl bh cb) (roU al ah ca bl bh cb) (rdX n d) (rdY n d) (rdZ n d) (rdU n d)
set_option maxRecDepth 100000 in
set_option maxHeartbeats 8000000 in
theorem specRateBroken_any (n d al ah ca bl bh cb : Int) (w : World) : Calls Tryd.prog 30 #[.agg #[.int .i64 n, .int .i64 d], .agg #[.int .i64 al, .int .i64 ah], .int .i64 ca, .agg #[.int .i64 bl, .int .i64 bh], .int .i64 cb] w fun e w' => e = .returned (.bool (brB n d al ah ca bl bh cb)) ∧ Below w.heap.size w w' := by
  have A0 := Below.nw w (.cells #[.int .i64 n, .int .i64 d] 43)
  have A1 := Below.nw (w.alloc (.cells #[.int .i64 n, .int .i64 d] 43)) (.cells #[.int .i64 al, .int .i64 ah] 38)
  have A2 := Below.nw ((w.alloc (.cells #[.int .i64 n, .int .i64 d] 43)).alloc (.cells #[.int .i64 al, .int .i64 ah] 38)) (.cells #[.int .i64 bl, .int .i64 bh] 38)
  have D := ((Bx2.new w (.int .i64 n) (.int .i64 d) 43).below A1).below A2
  have P := (Bx2.new (w.alloc (.cells #[.int .i64 n, .int .i64 d] 43)) (.int .i64 al) (.int .i64 ah) 38).below A2
  have Q := Bx2.new ((w.alloc (.cells #[.int .i64 n, .int .i64 d] 43)).alloc (.cells #[.int .i64 al, .int .i64 ah] 38)) (.int .i64 bl) (.int .i64 bh) 38
  have B := (A0.trans (A1.mono A0.size)).trans (A2.mono (A0.trans (A1.mono A0.size)).size)
  simp only [World.size_alloc] at P Q
  clear A0 A1 A2
  have C1 := fun w' => specRateOf_any al ah ca bl bh cb w'
  have C2 := fun w' => specRateOfDrift_any n d w'
  unfold brB
  generalize roX al ah ca bl bh cb = x1 at *
  generalize roY al ah ca bl bh cb = y1 at *
  generalize roZ al ah ca bl bh cb = x2 at *
  generalize roU al ah ca bl bh cb = y2 at *
  generalize rdX n d = x3 at *
  generalize rdY n d = y3 at *
  generalize rdZ n d = x4 at *
  generalize rdU n d = y4 at *
  have C3 := fun w' => specRatesMeet_any x1 y1 x2 y2 x3 y3 x4 y4 w'
  generalize mtB x1 y1 x2 y2 x3 y3 x4 y4 = mb at *
  generalize mtV mb (mlX x1 y1 x3 y3) = z1 at *
  generalize mtV mb (mlY x1 y1 x3 y3) = z2 at *
  generalize mtV mb (mhX x2 y2 x4 y4) = z3 at *
  generalize mtV mb (mhY x2 y2 x4 y4) = z4 at *
  generalize roB al ah ca bl bh cb = ro at *
  generalize okD n d = rd at *
  go_enter Tryd.func30, Tryd.ntmps30; go_upto_region 1 with fail; generalize (((w.alloc (.cells #[.int .i64 n, .int .i64 d] 43)).alloc (.cells #[.int .i64 al, .int .i64 ah] 38)).alloc (.cells #[.int .i64 bl, .int .i64 bh] 38)) = v at *; generalize w.heap.size + 1 + 1 = jq at *; generalize w.heap.size + 1 = jp at *
  obtain ⟨n0, n1, n2, n3, n4⟩ := id P
  obtain ⟨m0, m1, m2, m3, m4⟩ := id Q
  go_wp2_with fail
  refine (C1 _).mono ?_
  rintro e v2 ⟨rfl, hbl⟩
  clear n0 n1 n2 n3 n4 m0 m1 m2 m3 m4
  replace D := D.below hbl
  replace B := B.trans (hbl.mono B.size)
  clear hbl P Q
  have Z0 := Below.nw v2 (.cells #[.int .i64 x1, .int .i64 y1] 25)
  have Z1 := Below.nw (v2.alloc (.cells #[.int .i64 x1, .int .i64 y1] 25)) (.cells #[.int .i64 x2, .int .i64 y2] 25)
  have K1 := (Bx2.new v2 (.int .i64 x1) (.int .i64 y1) 25).below Z1
  have K2 := Bx2.new (v2.alloc (.cells #[.int .i64 x1, .int .i64 y1] 25)) (.int .i64 x2) (.int .i64 y2) 25
  simp only [World.size_alloc] at K2
  have hbl := Z0.trans (Z1.mono Z0.size)
  clear Z0 Z1
  replace D := D.below hbl
  replace B := B.trans (hbl.mono B.size)
  clear hbl
  go_upto_region 2 with fail
  generalize (v2.alloc (.cells #[.int .i64 x1, .int .i64 y1] 25)).alloc (.cells #[.int .i64 x2, .int .i64 y2] 25) = v3 at *
  generalize v2.heap.size + 1 = jK2 at *
  generalize v2.heap.size = jK1 at *
  obtain ⟨n0, n1, n2, n3, n4⟩ := id D
  go_wp2_with fail
  refine (C2 _).mono ?_
  rintro e v4 ⟨rfl, hbl⟩
  clear n0 n1 n2 n3 n4 D
  replace K1 := K1.below hbl
  replace K2 := K2.below hbl
  replace B := B.trans (hbl.mono B.size)
  clear hbl
  have Z0 := Below.nw v4 (.cells #[.int .i64 x3, .int .i64 y3] 25)
  have Z1 := Below.nw (v4.alloc (.cells #[.int .i64 x3, .int .i64 y3] 25)) (.cells #[.int .i64 x4, .int .i64 y4] 25)
  have K3 := (Bx2.new v4 (.int .i64 x3) (.int .i64 y3) 25).below Z1
  have K4 := Bx2.new (v4.alloc (.cells #[.int .i64 x3, .int .i64 y3] 25)) (.int .i64 x4) (.int .i64 y4) 25
  simp only [World.size_alloc] at K4
  have hbl := Z0.trans (Z1.mono Z0.size)
  clear Z0 Z1
  replace K1 := K1.below hbl
  replace K2 := K2.below hbl
  replace B := B.trans (hbl.mono B.size)
  clear hbl
  go_upto_region 3 with fail
  generalize (v4.alloc (.cells #[.int .i64 x3, .int .i64 y3] 25)).alloc (.cells #[.int .i64 x4, .int .i64 y4] 25) = v5 at *
  generalize v4.heap.size + 1 = jK4 at *
  generalize v4.heap.size = jK3 at *
  cases ro
  · go_wp2_with fail
    go_ret
    exact ⟨rfl, B⟩
  cases rd
  · go_wp2_with fail
    go_ret
    exact ⟨rfl, B⟩
  obtain ⟨n0, n1, n2, n3, n4⟩ := id K1
  obtain ⟨m0, m1, m2, m3, m4⟩ := id K2
  obtain ⟨p0, p1, p2, p3, p4⟩ := id K3
  obtain ⟨q0, q1, q2, q3, q4⟩ := id K4
  go_wp2_with fail
  refine (C3 _).mono ?_
  rintro e v6 ⟨rfl, hbl⟩
  replace B := B.trans (hbl.mono B.size)
  clear hbl n0 n1 n2 n3 n4 m0 m1 m2 m3 m4 p0 p1 p2 p3 p4 q0 q1 q2 q3 q4 K1 K2 K3 K4
  go_wp2_with fail
  go_ret
  exact ⟨rfl, Below.alloc (Below.alloc B B.size _) (by simp; have := B.size; omega) _⟩
end Go.Proofs.YtjefbjjhdpidiaaDoor
