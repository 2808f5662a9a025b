/- RatesMeet and RateBroken of the program. -/
import Derived.Test.YtblappilppfkiaaDoorF119
import Derived.Test.YtblappilppfkiaaDoorF128
import Derived.Test.YtblappilppfkiaaDoorF130
import Derived.Test.YtblappilppfkiaaDoorF131
import Derived.Deep.RegionHeld3
import Derived.Deep.DeepCutAuto
import Derived.WalkKit
import Derived.WalkSpells
import Derived.WalkLawsBesides
import Derived.Deep.RegionHeld
namespace Go.Proofs.YtblappilppfkiaaDoor
open Go.RowKit
set_option linter.unusedVariables false
theorem me_nil (u v : Addr) (P B : Bool) (w : World) : (binOp .eql 63 (meE u v P B) .nilIface).run Tryd.prog w = .ok (.bool B) w := by
  cases B
  · cases P
    · kernel_rfl
    · kernel_rfl
  · kernel_rfl
theorem me_guard (x : Nat) (u v : Addr) (P B : Bool) (w : World) : (eqGuard .eql 63 (.tmp x) (.const .nilIface) (meE u v P B) .nilIface).run Tryd.prog w = .ok () w := by
  cases B
  · cases P
    · kernel_rfl
    · kernel_rfl
  · kernel_rfl
theorem is_me (u v : Addr) (P B : Bool) (w : World) (hne : u ≠ v) (E : Er w 0 u) (E1 : Er w 1 v) : Calls Tryd.prog 27 #[meE u v P B, .iface 124 (.pointer (some v))] w fun e w' => e = .returned (.bool (P && !B)) ∧ w = w' := by
  cases B
  · cases P
    · exact (is_other u v w hne E.2.2.2 E1.2.2.2).mono fun e w' ⟨he, hw⟩ => ⟨he, hw.symm⟩
    · exact (is_same v w).mono fun e w' ⟨he, hw⟩ => ⟨he, hw.symm⟩
  · exact (is_nil v w).mono fun e w' ⟨he, hw⟩ => ⟨by rw [he]; cases P <;> rfl, hw.symm⟩
theorem fo_ok {x y : Int} (h : foB x y = true) : okF (foX x y) (foY x y) = true := by
  obtain ⟨e1, e2⟩ := fo_t h
  rw [e1, e2]
  unfold foB at h
  simp only [Bool.and_eq_true, Bool.not_eq_true', beq_eq_false_iff_ne] at h
  obtain ⟨⟨h0, hx⟩, hy⟩ := h
  have hp := fo_pos (x := x) h0
  have hg := fo_low (x := x) h0
  have b1 := td_in (g := foG x y) (szF_t hx)
  have b2 := td_in (g := foG x y) (szF_t hy)
  have b2' : foD x y ≤ 4000000000000 := b2.2
  have e3 : szF (foN x y) = true := decide_eq_true b1
  have e4 : dnF (foD x y) = true := decide_eq_true ⟨by omega, b2'⟩
  rw [okF, e3, e4, hg]
  rfl
theorem ok_00 : okF 0 0 = false := by decide +kernel
theorem foB_in {x y : Int} (h1 : -4000000000000 ≤ x ∧ x ≤ 4000000000000) (h2 : 1 ≤ y ∧ y ≤ 4000000000000) : foB x y = true := by
  have e1 : szF x = true := decide_eq_true h1
  have e2 : szF y = true := decide_eq_true ⟨by omega, h2.2⟩
  have e3 : (y == 0) = false := beq_eq_false_iff_ne.2 (by omega)
  rw [foB, e1, e2, e3]
  rfl
theorem ro_ok (al ah ca bl bh cb : Int) : okF (roX al ah ca bl bh cb) (roY al ah ca bl bh cb) = roB al ah ca bl bh cb ∧ okF (roZ al ah ca bl bh cb) (roU al ah ca bl bh cb) = roB al ah ca bl bh cb := by
  cases h : roB al ah ca bl bh cb
  · obtain ⟨e1, e2, e3, e4⟩ := ro_f h
    rw [e1, e2, e3, e4]
    exact ⟨ok_00, ok_00⟩
  · obtain ⟨e1, e2, e3, e4⟩ := ro_t h
    rw [e1, e2, e3, e4]
    unfold roB at h
    simp only [Bool.and_eq_true, decide_eq_true_eq] at h
    obtain ⟨⟨k1, k2⟩, c1, c2, c3, c4⟩ := h
    have a1 := okI_t k1
    have a2 := okI_t k2
    have hm : 0 ≤ imx 0 (bl - ah) ∧ imx 0 (bl - ah) ≤ 4000000000000 := by
      by_cases hq : 0 ≤ bl - ah
      · have e := imx_g (x := 0) (y := bl - ah) (by omega)
        rw [e]
        omega
      · have e := imx_l (x := 0) (y := bl - ah) (by omega)
        rw [e]
        omega
    exact ⟨fo_ok (foB_in ⟨by omega, hm.2⟩ ⟨by omega, by omega⟩), fo_ok (foB_in ⟨by omega, by omega⟩ ⟨by omega, by omega⟩)⟩
theorem rd_ok (n d : Int) : okF (rdX n d) (rdY n d) = okD n d ∧ okF (rdZ n d) (rdU n d) = okD n d := by
  cases h : okD n d
  · obtain ⟨e1, e2, e3, e4⟩ := rd_f h
    rw [e1, e2, e3, e4]
    exact ⟨ok_00, ok_00⟩
  · obtain ⟨e1, e2, e3, e4⟩ := rd_t h
    rw [e1, e2, e3, e4]
    have ⟨d1, d2, d3, d4⟩ := okD_t h
    exact ⟨fo_ok (foB_in ⟨by omega, by omega⟩ ⟨by omega, by omega⟩), fo_ok (foB_in ⟨by omega, by omega⟩ ⟨by omega, by omega⟩)⟩
theorem br_mt (n d al ah ca bl bh cb : Int) : mtP (roX al ah ca bl bh cb) (roY al ah ca bl bh cb) (roZ al ah ca bl bh cb) (roU al ah ca bl bh cb) (rdX n d) (rdY n d) (rdZ n d) (rdU n d) = (roB al ah ca bl bh cb && okD n d) := by
  rw [mtP, (ro_ok al ah ca bl bh cb).1, (ro_ok al ah ca bl bh cb).2, (rd_ok n d).1, (rd_ok n d).2]
  cases roB al ah ca bl bh cb <;> cases okD n d <;> rfl
set_option maxRecDepth 100000 in
set_option maxHeartbeats 8000000 in
theorem implRateBroken_any (n d al ah ca bl bh cb : Int) (s t : Addr) (w : World) (hst : s ≠ t) (E : Er w 0 s) (E1 : Er w 1 t) : Calls Tryd.prog 18 #[.agg #[.int .i64 n, .int .i64 d], .agg #[.int .i64 al, .int .i64 ah], .int .i64 ca, .agg #[.int .i64 bl, .int .i64 bh], .int .i64 cb] w fun e w' => e = .returned (.bool (brB n d al ah ca bl bh cb)) ∧ Below w.heap.size w w' := by
  have A0 := Below.nw w (.cells #[.int .i64 n, .int .i64 d] 35)
  have A1 := Below.nw (w.alloc (.cells #[.int .i64 n, .int .i64 d] 35)) (.cells #[.int .i64 al, .int .i64 ah] 49)
  have A2 := Below.nw ((w.alloc (.cells #[.int .i64 n, .int .i64 d] 35)).alloc (.cells #[.int .i64 al, .int .i64 ah] 49)) (.cells #[.int .i64 bl, .int .i64 bh] 49)
  have D := ((Bx2.new w (.int .i64 n) (.int .i64 d) 35).below A1).below A2
  have P := (Bx2.new (w.alloc (.cells #[.int .i64 n, .int .i64 d] 35)) (.int .i64 al) (.int .i64 ah) 49).below A2
  have Q := Bx2.new ((w.alloc (.cells #[.int .i64 n, .int .i64 d] 35)).alloc (.cells #[.int .i64 al, .int .i64 ah] 49)) (.int .i64 bl) (.int .i64 bh) 49
  have B := (A0.trans (A1.mono A0.size)).trans (A2.mono (A0.trans (A1.mono A0.size)).size)
  simp only [World.size_alloc] at P Q
  clear A0 A1 A2
  replace E := E.below B
  replace E1 := E1.below B
  have C1 := fun w' E' => implRateOf_any al ah ca bl bh cb s w' E'
  have C2 := fun w' E' => implRateOfDrift_any n d s w' E'
  unfold brB
  rw [← br_mt]
  generalize roX al ah ca bl bh cb = x1 at *
  generalize roY al ah ca bl bh cb = y1 at *
  generalize roZ al ah ca bl bh cb = x2 at *
  generalize roU al ah ca bl bh cb = y2 at *
  generalize rdX n d = x3 at *
  generalize rdY n d = y3 at *
  generalize rdZ n d = x4 at *
  generalize rdU n d = y4 at *
  have C3 := fun w' E' E1' => meet_any x1 y1 x2 y2 x3 y3 x4 y4 s t w' E' E1'
  have C4 := fun w' E' E1' => is_me s t (mtP x1 y1 x2 y2 x3 y3 x4 y4) (mtB x1 y1 x2 y2 x3 y3 x4 y4) w' hst E' E1'
  generalize mtV (mtB x1 y1 x2 y2 x3 y3 x4 y4) (mlX x1 y1 x3 y3) = z1 at *
  generalize mtV (mtB x1 y1 x2 y2 x3 y3 x4 y4) (mlY x1 y1 x3 y3) = z2 at *
  generalize mtV (mtB x1 y1 x2 y2 x3 y3 x4 y4) (mhX x2 y2 x4 y4) = z3 at *
  generalize mtV (mtB x1 y1 x2 y2 x3 y3 x4 y4) (mhY x2 y2 x4 y4) = z4 at *
  generalize meE s t (mtP x1 y1 x2 y2 x3 y3 x4 y4) (mtB x1 y1 x2 y2 x3 y3 x4 y4) = er at *
  generalize (mtP x1 y1 x2 y2 x3 y3 x4 y4 && !mtB x1 y1 x2 y2 x3 y3 x4 y4) = mb at *
  generalize roB al ah ca bl bh cb = ro at *
  generalize okD n d = rd at *
  go_enter Tryd.func18, Tryd.ntmps18; go_upto_region 1 with fail; generalize (((w.alloc (.cells #[.int .i64 n, .int .i64 d] 35)).alloc (.cells #[.int .i64 al, .int .i64 ah] 49)).alloc (.cells #[.int .i64 bl, .int .i64 bh] 49)) = v at *; generalize w.heap.size + 1 + 1 = jq at *; generalize w.heap.size + 1 = jp at *
  obtain ⟨n0, n1, n2, n3, n4⟩ := id P
  obtain ⟨m0, m1, m2, m3, m4⟩ := id Q
  go_wp2_with fail
  refine (C1 _ E).mono ?_
  rintro e v2 ⟨rfl, hbl⟩
  clear n0 n1 n2 n3 n4 m0 m1 m2 m3 m4
  replace D := D.below hbl
  replace E := E.below hbl
  replace E1 := E1.below hbl
  replace B := B.trans (hbl.mono B.size)
  clear hbl P Q
  have Z0 := Below.nw v2 (.cells #[.int .i64 x1, .int .i64 y1] 27)
  have Z1 := Below.nw (v2.alloc (.cells #[.int .i64 x1, .int .i64 y1] 27)) (.cells #[.int .i64 x2, .int .i64 y2] 27)
  have K1 := (Bx2.new v2 (.int .i64 x1) (.int .i64 y1) 27).below Z1
  have K2 := Bx2.new (v2.alloc (.cells #[.int .i64 x1, .int .i64 y1] 27)) (.int .i64 x2) (.int .i64 y2) 27
  simp only [World.size_alloc] at K2
  have hbl := Z0.trans (Z1.mono Z0.size)
  clear Z0 Z1
  replace D := D.below hbl
  replace E := E.below hbl
  replace E1 := E1.below hbl
  replace B := B.trans (hbl.mono B.size)
  clear hbl
  go_upto_region 2 with fail
  generalize (v2.alloc (.cells #[.int .i64 x1, .int .i64 y1] 27)).alloc (.cells #[.int .i64 x2, .int .i64 y2] 27) = v3 at *
  generalize v2.heap.size + 1 = jK2 at *
  generalize v2.heap.size = jK1 at *
  obtain ⟨n0, n1, n2, n3, n4⟩ := id D
  go_wp2_with fail
  refine (C2 _ E).mono ?_
  rintro e v4 ⟨rfl, hbl⟩
  clear n0 n1 n2 n3 n4 D
  replace K1 := K1.below hbl
  replace K2 := K2.below hbl
  replace E := E.below hbl
  replace E1 := E1.below hbl
  replace B := B.trans (hbl.mono B.size)
  clear hbl
  have Z0 := Below.nw v4 (.cells #[.int .i64 x3, .int .i64 y3] 27)
  have Z1 := Below.nw (v4.alloc (.cells #[.int .i64 x3, .int .i64 y3] 27)) (.cells #[.int .i64 x4, .int .i64 y4] 27)
  have K3 := (Bx2.new v4 (.int .i64 x3) (.int .i64 y3) 27).below Z1
  have K4 := Bx2.new (v4.alloc (.cells #[.int .i64 x3, .int .i64 y3] 27)) (.int .i64 x4) (.int .i64 y4) 27
  simp only [World.size_alloc] at K4
  have hbl := Z0.trans (Z1.mono Z0.size)
  clear Z0 Z1
  replace K1 := K1.below hbl
  replace K2 := K2.below hbl
  replace E := E.below hbl
  replace E1 := E1.below hbl
  replace B := B.trans (hbl.mono B.size)
  clear hbl
  go_upto_region 3 with fail
  generalize (v4.alloc (.cells #[.int .i64 x3, .int .i64 y3] 27)).alloc (.cells #[.int .i64 x4, .int .i64 y4] 27) = v5 at *
  generalize v4.heap.size + 1 = jK4 at *
  generalize v4.heap.size = jK3 at *
  obtain ⟨n0, n1, n2, n3, n4⟩ := id K1
  obtain ⟨m0, m1, m2, m3, m4⟩ := id K2
  obtain ⟨p0, p1, p2, p3, p4⟩ := id K3
  obtain ⟨q0, q1, q2, q3, q4⟩ := id K4
  go_wp2_with fail
  refine (C3 _ E E1).mono ?_
  rintro e v6 ⟨rfl, hbl⟩
  replace E := E.below hbl
  replace E1 := E1.below hbl
  replace B := B.trans (hbl.mono B.size)
  clear hbl n0 n1 n2 n3 n4 m0 m1 m2 m3 m4 p0 p1 p2 p3 p4 q0 q1 q2 q3 q4 K1 K2 K3 K4
  have Z := Below.nw v6 (.cells #[.int .i64 z1, .int .i64 z2, .int .i64 z3, .int .i64 z4] 83)
  replace E := E.below Z
  replace E1 := E1.below Z
  replace B := B.trans (Z.mono B.size)
  clear Z
  go_upto_region 4 with fail
  generalize v6.alloc (.cells #[.int .i64 z1, .int .i64 z2, .int .i64 z3, .int .i64 z4] 83) = v7 at *
  have k0 := E1.1
  go_wp2_with fail
  refine (C4 _ E E1).mono ?_
  rintro e w' ⟨rfl, rfl⟩
  go_wp2_with fail
  go_ret
  exact ⟨rfl, B⟩
end Go.Proofs.YtblappilppfkiaaDoor
