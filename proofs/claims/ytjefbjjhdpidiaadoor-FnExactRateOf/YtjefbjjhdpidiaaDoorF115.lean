/- RateOfDrift in the specification. -/
import Derived.Test.YtjefbjjhdpidiaaDoorF114
import Derived.Test.YtjefbjjhdpidiaaDoorE1
import Derived.Deep.RegionHeld3
import Derived.WalkKit
import Derived.WalkSpells
import Derived.WalkLawsBesides
import Derived.Deep.RegionHeld
namespace Go.Proofs.YtjefbjjhdpidiaaDoor
open Go.RowKit
set_option linter.unusedVariables false
theorem two_in {w wr : World} {B j k : Nat} (h : Below B w wr) (hj : B ≤ j) (hk : B ≤ k) (x y z u : Value) : Below B w ((((wr.setCell ⟨j, 0, none⟩ x).setCell ⟨j, 1, none⟩ y).setCell ⟨k, 0, none⟩ z).setCell ⟨k, 1, none⟩ u) := (((h.setCell (p := ⟨j, 0, none⟩) hj x).setCell (p := ⟨j, 1, none⟩) hj y).setCell (p := ⟨k, 0, none⟩) hk z).setCell (p := ⟨k, 1, none⟩) hk u
def rdX (n d : Int) : Int := if okD n d = true then foX d (d + n) else 0
def rdY (n d : Int) : Int := if okD n d = true then foY d (d + n) else 0
def rdZ (n d : Int) : Int := if okD n d = true then foX d (d - n) else 0
def rdU (n d : Int) : Int := if okD n d = true then foY d (d - n) else 0
theorem rd_t {n d : Int} (h : okD n d = true) : rdX n d = foX d (d + n) ∧ rdY n d = foY d (d + n) ∧ rdZ n d = foX d (d - n) ∧ rdU n d = foY d (d - n) := ⟨if_pos h, if_pos h, if_pos h, if_pos h⟩
theorem rd_f {n d : Int} (h : okD n d = false) : rdX n d = 0 ∧ rdY n d = 0 ∧ rdZ n d = 0 ∧ rdU n d = 0 := by
  have h' : ¬ okD n d = true := by rw [h]; decide
  exact ⟨if_neg h', if_neg h', if_neg h', if_neg h'⟩
set_option maxRecDepth 100000 in
set_option maxHeartbeats 4000000 in
theorem specRateOfDrift_any (n d : Int) (w : World) : Calls Tryd.prog 22 #[.agg #[.int .i64 n, .int .i64 d]] w fun e w' => e = .returned (.tuple #[.agg #[.int .i64 (rdX n d), .int .i64 (rdY n d)], .agg #[.int .i64 (rdZ n d), .int .i64 (rdU n d)], .bool (okD n d)]) ∧ Below w.heap.size w w' := by
  have A0 := Below.nw w (.cells #[.int .i64 n, .int .i64 d] 43); have A1 := Below.nw (w.alloc (.cells #[.int .i64 n, .int .i64 d] 43)) (.cells #[.int .i64 0, .int .i64 0] 25); have A2 := Below.nw ((w.alloc (.cells #[.int .i64 n, .int .i64 d] 43)).alloc (.cells #[.int .i64 0, .int .i64 0] 25)) (.cells #[.int .i64 0, .int .i64 0] 25); have D := ((Bx2.new w (.int .i64 n) (.int .i64 d) 43).below A1).below A2; have R := (Bx2.new (w.alloc (.cells #[.int .i64 n, .int .i64 d] 43)) (.int .i64 0) (.int .i64 0) 25).below A2; have T := Bx2.new ((w.alloc (.cells #[.int .i64 n, .int .i64 d] 43)).alloc (.cells #[.int .i64 0, .int .i64 0] 25)) (.int .i64 0) (.int .i64 0) 25; have B := (A0.trans (A1.mono A0.size)).trans (A2.mono (A0.trans (A1.mono A0.size)).size)
  simp only [World.size_alloc] at R T
  clear A0 A1 A2
  have hj1 : w.heap.size ≤ w.heap.size + 1 := by omega
  have hj2 : w.heap.size ≤ w.heap.size + 1 + 1 := by omega
  have hne : w.heap.size + 1 ≠ w.heap.size + 1 + 1 := by omega
  cases h1 : okD n d
  · obtain ⟨e1, e2, e3, e4⟩ := rd_f h1
    rw [e1, e2, e3, e4]
    clear e1 e2 e3 e4
    go_enter Tryd.func22, Tryd.ntmps22
    go_upto_region 1 with fail
    generalize ((w.alloc (.cells #[.int .i64 n, .int .i64 d] 43)).alloc (.cells #[.int .i64 0, .int .i64 0] 25)).alloc (.cells #[.int .i64 0, .int .i64 0] 25) = v at *
    generalize w.heap.size + 1 + 1 = j2 at *
    generalize w.heap.size + 1 = j1 at *
    have hne' := Ne.symm hne
    obtain ⟨n0, n1, n2, n3, n4⟩ := id D
    go_wp2_with fail
    refine (specDriftOk_any _ _ _).mono ?_
    rintro e v2 ⟨rfl, hb⟩
    rw [h1]
    clear n0 n1 n2 n3 n4
    replace R := R.below hb
    replace T := T.below hb
    replace B := B.trans (hb.mono B.size)
    clear hb
    obtain ⟨r0, r1, r2, r3, r4⟩ := id R
    obtain ⟨t0, t1, t2, t3, t4⟩ := id T
    go_wp2_with fail
    exact bodyPost_ret (v := (.tuple #[.agg #[.int .i64 0, .int .i64 0], .agg #[.int .i64 0, .int .i64 0], .bool false])) (by simp (maxDischargeDepth := 6) [results, Tryd.results22, go_sem, *]) rfl ⟨rfl, two_in B hj1 hj2 _ _ _ _⟩
  obtain ⟨e1, e2, e3, e4⟩ := rd_t h1
  rw [e1, e2, e3, e4]
  clear e1 e2 e3 e4
  have ⟨d1, d2, d3, d4⟩ := okD_t h1
  have C1 := fun w' => specFracOf_any d (d + n) w'
  have C2 := fun w' => specFracOf_any d (d - n) w'
  generalize foX d (d + n) = x1 at *
  generalize foY d (d + n) = y1 at *
  generalize foB d (d + n) = b1 at *
  generalize foX d (d - n) = x2 at *
  generalize foY d (d - n) = y2 at *
  generalize foB d (d - n) = b2 at *
  go_enter Tryd.func22, Tryd.ntmps22
  go_upto_region 1 with fail
  generalize ((w.alloc (.cells #[.int .i64 n, .int .i64 d] 43)).alloc (.cells #[.int .i64 0, .int .i64 0] 25)).alloc (.cells #[.int .i64 0, .int .i64 0] 25) = v at *
  have hvs := T.1
  generalize w.heap.size + 1 + 1 = j2 at *
  generalize w.heap.size + 1 = j1 at *
  have hne' := Ne.symm hne
  obtain ⟨n0, n1, n2, n3, n4⟩ := id D
  go_wp2_with fail
  refine (specDriftOk_any _ _ _).mono ?_
  rintro e v2 ⟨rfl, hb⟩
  rw [h1]
  clear n0 n1 n2 n3 n4
  replace D := D.below hb
  replace R := R.below hb
  replace T := T.below hb
  replace B := B.trans (hb.mono B.size)
  clear hb
  obtain ⟨n0, n1, n2, n3, n4⟩ := id D
  go_wp2_with fail
  refine (C1 _).mono ?_
  rintro e v3 ⟨rfl, hb⟩
  clear n0 n1 n2 n3 n4
  replace D := D.below hb
  replace R := R.below hb
  replace T := T.below hb
  replace B := B.trans (hb.mono B.size)
  clear hb C1
  have A3 := Below.nw v3 (.cells #[.int .i64 x1, .int .i64 y1] 25)
  have X := Bx2.new v3 (.int .i64 x1) (.int .i64 y1) 25
  have hk1 : j1 < v3.heap.size := R.1
  have hk2 : j2 < v3.heap.size := T.1
  go_upto_region 4 with fail
  replace D := D.below A3
  replace R := R.below A3
  replace T := T.below A3
  replace B := B.trans (A3.mono B.size)
  clear A3
  generalize v3.heap.size = j5 at *
  generalize v3.alloc (.cells #[.int .i64 x1, .int .i64 y1] 25) = v4 at *
  obtain ⟨n0, n1, n2, n3, n4⟩ := id D
  go_wp2_with fail
  refine (C2 _).mono ?_
  rintro e v5 ⟨rfl, hb⟩
  clear n0 n1 n2 n3 n4 D
  replace X := X.below hb
  replace R := R.below hb
  replace T := T.below hb
  replace B := B.trans (hb.mono B.size)
  clear hb C2
  have A3 := Below.nw v5 (.cells #[.int .i64 x2, .int .i64 y2] 25)
  have Z := Bx2.new v5 (.int .i64 x2) (.int .i64 y2) 25
  have hk3 : j1 < v5.heap.size := R.1
  have hk4 : j2 < v5.heap.size := T.1
  go_upto_region 5 with fail
  replace X := X.below A3
  replace R := R.below A3
  replace T := T.below A3
  replace B := B.trans (A3.mono B.size)
  clear A3
  generalize v5.heap.size = j7 at *
  generalize v5.alloc (.cells #[.int .i64 x2, .int .i64 y2] 25) = v6 at *
  have a1 : j1 ≠ j5 := by omega
  have a2 : j2 ≠ j5 := by omega
  have a3 : j1 ≠ j7 := by omega
  have a4 : j2 ≠ j7 := by omega
  have a1' := Ne.symm a1
  have a2' := Ne.symm a2
  have a3' := Ne.symm a3
  have a4' := Ne.symm a4
  obtain ⟨x0', xa, xb, xc, xd⟩ := id X
  obtain ⟨z0', za, zb, zc, zd⟩ := id Z
  obtain ⟨r0, r1, r2, r3, r4⟩ := id R
  obtain ⟨t0, t1, t2, t3, t4⟩ := id T
  refine wp_region_held_drew (S := (fun w' => w'.cell? ⟨j5, 0, none⟩ = some (.int .i64 x1) ∧ w'.cell? ⟨j5, 1, none⟩ = some (.int .i64 y1) ∧ w'.cell? ⟨j7, 0, none⟩ = some (.int .i64 x2) ∧ w'.cell? ⟨j7, 1, none⟩ = some (.int .i64 y2))) (by kernel_rfl) ?_ (fun hHeld => ?_)
  · first | exact ⟨xa, xb, za, zb⟩ | (simp (maxDischargeDepth := 6) [go_sem, *]; done)
  refine wpAnyH_take (i := 0) (v := ?_) (by rw [List.getElem?_toArray]; rfl) (by kernel_rfl) (by kernel_rfl) (by kernel_rfl) (by intro _ _ _ h; exact h) (Or.inl ⟨by rfl, ?_⟩) (by assumption) ?_
  rotate_left
  · (intro w hSw; (try dsimp only at hSw); go_simp; all_goals with_reducible rfl)
  (try simp only [Act.put, List.setIfInBounds_toArray, List.set_cons_zero, List.set_cons_succ])
  refine wpAnyH_take (i := 1) (v := ?_) (by rw [List.getElem?_toArray]; rfl) (by kernel_rfl) (by kernel_rfl) (by kernel_rfl) (by intro _ _ _ h; exact h) (Or.inl ⟨by rfl, ?_⟩) (by assumption) ?_
  rotate_left
  · (intro w hSw; (try dsimp only at hSw); go_simp; all_goals with_reducible rfl)
  (try simp only [Act.put, List.setIfInBounds_toArray, List.set_cons_zero, List.set_cons_succ])
  refine wpAnyH_ready (rs := [2]) (by kernel_rfl) (by simp) ?_
  refine AllReadyH.cons (by rw [List.getElem?_toArray]; rfl) (fun K hK => ?_) AllReadyH.nil
  go_simp
  refine hK.out _ _ ?_ (fun hHeld => ?_)
  · first | exact ⟨xa, xb, za, zb⟩ | (simp (maxDischargeDepth := 6) [go_sem, *]; done)
  clear hK K
  (try simp only [Act.put, List.setIfInBounds_toArray, List.set_cons_zero, List.set_cons_succ])
  refine wpAnyH_ready (rs := [3]) (by kernel_rfl) (by simp) ?_
  refine AllReadyH.cons (by rw [List.getElem?_toArray]; rfl) (fun K hK => ?_) AllReadyH.nil
  go_simp
  refine hK.out _ _ ?_ (fun hHeld => ?_)
  · first | exact ⟨xa, xb, za, zb⟩ | (simp (maxDischargeDepth := 6) [go_sem, *]; done)
  clear hK K
  (try simp only [Act.put, List.setIfInBounds_toArray, List.set_cons_zero, List.set_cons_succ])
  refine wpAnyH_take (i := 4) (v := ?_) (by rw [List.getElem?_toArray]; rfl) (by kernel_rfl) (by kernel_rfl) (by kernel_rfl) (by intro _ _ _ h; exact h) (Or.inl ⟨by rfl, ?_⟩) (by assumption) ?_
  rotate_left
  · (intro w hSw; (try dsimp only at hSw); go_simp; all_goals with_reducible rfl)
  (try simp only [Act.put, List.setIfInBounds_toArray, List.set_cons_zero, List.set_cons_succ])
  refine wpAnyH_done (by kernel_rfl) ?_ _
  go_wp2_with fail
  exact bodyPost_ret (v := (.tuple #[.agg #[.int .i64 x1, .int .i64 y1], .agg #[.int .i64 x2, .int .i64 y2], .bool true])) (by simp (maxDischargeDepth := 6) [results, Tryd.results22, go_sem, *]) rfl ⟨rfl, by first | exact two_in (Below.drew B) hj1 hj2 _ _ _ _ | exact Below.drew (two_in B hj1 hj2 _ _ _ _)⟩
end Go.Proofs.YtjefbjjhdpidiaaDoor
