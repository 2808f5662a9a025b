/- What a frame may take and reach over in the program: outgoing.fault, most, span; GateSpan, BusyStill, GateBudget. -/
import Derived.Test.YtcakhfobkbgfoaaDoorC145
import Derived.Test.YtcakhfobkbgfoaaDoorF142
import Derived.Test.YtcakhfobkbgfoaaDoorT300
import Derived.Test.YtcakhfobkbgfoaaDoorI105
import Derived.Test.YtcakhfobkbgfoaaDoorE2
import Derived.Test.YtcakhfobkbgfoaaDoorW5
import Derived.Stop.IfaceNil
import Derived.Deep.QuietTactic
import Derived.Deep.RegionHeld3
import Derived.Deep.DeepCutAuto
import Derived.WalkKit
import Derived.WalkSpells
import Derived.WalkLawsBesides
import Derived.Deep.RegionHeld
namespace Go.Proofs.YtcakhfobkbgfoaaDoor
open Go.RowKit
set_option linter.unusedVariables false
theorem below_dq {B : Nat} {w wr : World} (h : Below B w wr) (n : Nat) : Below B w (wr.drewN n) := ⟨h.os, h.tape, h.output, h.size, h.block⟩
/- The error beside an answer: none where it is told. -/
def Fv (b : Bool) (v : Value) : Prop := match b with | true => v = .nilIface | false => ∃ a : Addr, v = .iface 169 (.pointer (some a))
theorem Fv.no {b : Bool} {v : Value} (h : Fv b v) (e : b = false) : ∃ a : Addr, v = .iface 169 (.pointer (some a)) := by subst e; exact h
theorem Fv.yes {b : Bool} {v : Value} (h : Fv b v) (e : b = true) : v = .nilIface := by subst e; exact h
theorem fv_no {b : Bool} (e : b = false) (a : Addr) : Fv b (.iface 169 (.pointer (some a))) := by subst e; exact ⟨a, rfl⟩
theorem fv_yes {b : Bool} (e : b = true) : Fv b .nilIface := by subst e; exact rfl
/- The errors that these functions tell, in their variables. -/
def EM (w : World) : Prop := ErE w 7 ∧ ErE w 8 ∧ ErE w 2
theorem EM.below {w w' : World} (h : EM w) (hb : Below w.heap.size w w') : EM w' := ⟨h.1.below hb, h.2.1.below hb, h.2.2.below hb⟩
def ES (w : World) : Prop := ErE w 1 ∧ ErE w 7 ∧ ErE w 8 ∧ ErE w 2
theorem ES.below {w w' : World} (h : ES w) (hb : Below w.heap.size w w') : ES w' := ⟨h.1.below hb, h.2.1.below hb, h.2.2.1.below hb, h.2.2.2.below hb⟩
theorem ES.em {w : World} (h : ES w) : EM w := h.2
theorem ErE.cell {w : World} {g : Nat} (h : ErE w g) : ∃ a : Addr, w.cell? ⟨g, 0, none⟩ = some (.iface 169 (.pointer (some a))) := by obtain ⟨a, h⟩ := h; exact ⟨a, h.1⟩
theorem neNo (v : Value) (w : World) : (binOp .neq 83 (.iface 169 v) .nilIface).run Tryd.prog w = .ok (.bool true) w := run_neq_iface_nil w 83 (by kernel_rfl) _ _
theorem neYes (w : World) : (binOp .neq 83 .nilIface .nilIface).run Tryd.prog w = .ok (.bool false) w := run_neq_nil_nil_at w 83 (by kernel_rfl)
theorem eqNo (v : Value) (w : World) : (binOp .eql 83 (.iface 169 v) .nilIface).run Tryd.prog w = .ok (.bool false) w := run_eql_iface_nil w 83 (by kernel_rfl) _ _
theorem eqYes (w : World) : (binOp .eql 83 .nilIface .nilIface).run Tryd.prog w = .ok (.bool true) w := run_eql_nil_nil_at w 83 (by kernel_rfl)
set_option maxRecDepth 100000 in
set_option maxHeartbeats 4000000 in
theorem outFault_any (n d x : Int) (w : World) (E : EM w) :
    Calls Tryd.prog 95 #[.agg #[.int .i64 n, .int .i64 d, .int .i64 x]] w fun e w' => (∃ v, e = .returned v ∧ Fv (frB n d x) v) ∧ Below w.heap.size w w' := by
  have B := Below.nw w (.cells #[.int .i64 n, .int .i64 d, .int .i64 x] 86)
  have N := Tx3.new w (.int .i64 n) (.int .i64 d) (.int .i64 x) 86
  have CK := fun w' => okd_any n d w'
  cases h1 : okD n d
  · have HF : Hid (frB n d x = false) := by unfold Hid frB; rw [h1]; rfl
    rw [h1] at CK
    clear h1
    go_enter Tryd.func95, Tryd.ntmps95
    go_upto_region 1 with fail
    generalize w.alloc (.cells #[.int .i64 n, .int .i64 d, .int .i64 x] 86) = v at *
    obtain ⟨n0, n1, n2, n3, n4, n5, n6⟩ := id N
    go_wp2_with fail
    refine (CK _).mono ?_
    rintro e v1 ⟨rfl, hb⟩
    clear n0 n1 n2 n3 n4 n5 n6
    replace B := B.trans (hb.mono B.size)
    obtain ⟨a, k0⟩ := (E.1.below B).cell
    go_wp2_with fail
    go_ret
    exact ⟨⟨_, rfl, fv_no HF.out a⟩, B⟩
  rw [h1] at CK
  by_cases h2 : x < 1
  · have HF : Hid (frB n d x = false) := by unfold Hid frB lgB; rw [decide_eq_false (by omega)]; simp
    clear h1
    go_enter Tryd.func95, Tryd.ntmps95
    go_upto_region 1 with fail
    generalize w.alloc (.cells #[.int .i64 n, .int .i64 d, .int .i64 x] 86) = v at *
    obtain ⟨n0, n1, n2, n3, n4, n5, n6⟩ := id N
    go_wp2_with fail
    refine (CK _).mono ?_
    rintro e v1 ⟨rfl, hb⟩
    clear n0 n1 n2 n3 n4 n5 n6
    replace N := N.below hb
    replace B := B.trans (hb.mono B.size)
    obtain ⟨a, k0⟩ := (E.2.1.below B).cell
    obtain ⟨n0, n1, n2, n3, n4, n5, n6⟩ := id N
    go_wp2_with fail
    go_ret
    exact ⟨⟨_, rfl, fv_no HF.out a⟩, B⟩
  by_cases h3 : 1000000000000 < x
  · have HF : Hid (frB n d x = false) := by unfold Hid frB lgB; rw [decide_eq_false (by omega)]; simp
    clear h1
    go_enter Tryd.func95, Tryd.ntmps95
    go_upto_region 1 with fail
    generalize w.alloc (.cells #[.int .i64 n, .int .i64 d, .int .i64 x] 86) = v at *
    obtain ⟨n0, n1, n2, n3, n4, n5, n6⟩ := id N
    go_wp2_with fail
    refine (CK _).mono ?_
    rintro e v1 ⟨rfl, hb⟩
    clear n0 n1 n2 n3 n4 n5 n6
    replace N := N.below hb
    replace B := B.trans (hb.mono B.size)
    obtain ⟨a, k0⟩ := (E.2.1.below B).cell
    obtain ⟨n0, n1, n2, n3, n4, n5, n6⟩ := id N
    go_wp2_with fail
    go_ret
    exact ⟨⟨_, rfl, fv_no HF.out a⟩, B⟩
  have HF : Hid (frB n d x = true) := by unfold Hid frB lgB; rw [h1, decide_eq_true (by omega)]; rfl
  clear h1
  go_enter Tryd.func95, Tryd.ntmps95
  go_upto_region 1 with fail
  generalize w.alloc (.cells #[.int .i64 n, .int .i64 d, .int .i64 x] 86) = v at *
  obtain ⟨n0, n1, n2, n3, n4, n5, n6⟩ := id N
  go_wp2_with fail
  refine (CK _).mono ?_
  rintro e v1 ⟨rfl, hb⟩
  clear n0 n1 n2 n3 n4 n5 n6
  replace N := N.below hb
  replace B := B.trans (hb.mono B.size)
  obtain ⟨n0, n1, n2, n3, n4, n5, n6⟩ := id N
  go_wp2_with fail
  go_ret
  exact ⟨⟨_, rfl, fv_yes HF.out⟩, B⟩
theorem moi_any (n d x : Int) (w : World) : Calls Tryd.prog 96 #[.agg #[.int .i64 n, .int .i64 d], .int .i64 x] w fun e w' => e = .returned (.tuple #[.int .i64 (moT n d x), .bool (moB n d x)]) ∧ Below w.heap.size w w' := implMostTime_any n d x w
theorem lei_any (n d x : Int) (w : World) : Calls Tryd.prog 73 #[.agg #[.int .i64 n, .int .i64 d], .int .i64 x] w fun e w' => e = .returned (.tuple #[.int .i64 (leT n d x), .bool (leB n d x)]) ∧ Below w.heap.size w w' := implLeastTime_any n d x w
set_option maxRecDepth 100000 in
set_option maxHeartbeats 4000000 in
theorem outMost_any (n d x : Int) (w : World) (E : EM w) :
    Calls Tryd.prog 71 #[.agg #[.int .i64 n, .int .i64 d, .int .i64 x]] w fun e w' => (∃ v, e = .returned (.tuple #[.int .i64 (mzT n d x), v]) ∧ Fv (mzB n d x) v) ∧ Below w.heap.size w w' := by
  have B := Below.nw w (.cells #[.int .i64 n, .int .i64 d, .int .i64 x] 86)
  have N := Tx3.new w (.int .i64 n) (.int .i64 d) (.int .i64 x) 86
  have CF := fun w' E => outFault_any n d x w' E
  have CM := fun w' => moi_any n d x w'
  have nN := neNo
  have nY := neYes
  cases h1 : frB n d x
  · obtain ⟨e1, e2⟩ := mz_bad h1
    rw [e2]
    have HF : Hid (mzB n d x = false) := e1
    rw [h1] at CF
    clear h1 e1 e2 CM
    go_enter Tryd.func71, Tryd.ntmps71
    go_upto_region 1 with fail
    generalize w.alloc (.cells #[.int .i64 n, .int .i64 d, .int .i64 x] 86) = v at *
    obtain ⟨n0, n1, n2, n3, n4, n5, n6⟩ := id N
    go_wp2_with fail
    refine (CF _ (E.below B)).mono ?_
    rintro e v1 ⟨⟨u, rfl, a, rfl⟩, hb⟩
    clear n0 n1 n2 n3 n4 n5 n6
    replace B := B.trans (hb.mono B.size)
    go_wp2_with fail
    go_ret2
    exact ⟨⟨_, rfl, fv_no HF.out a⟩, B⟩
  obtain ⟨e1, e2⟩ := mz_fr h1
  rw [e1, e2]
  rw [h1] at CF
  clear h1 e1 e2
  have Z : moB n d x = false → moT n d x = 0 := fun h => sel_f h _
  generalize moT n d x = T at *
  generalize moB n d x = Q at *
  go_enter Tryd.func71, Tryd.ntmps71
  go_upto_region 1 with fail
  generalize w.alloc (.cells #[.int .i64 n, .int .i64 d, .int .i64 x] 86) = v at *
  obtain ⟨n0, n1, n2, n3, n4, n5, n6⟩ := id N
  go_wp2_with fail
  refine (CF _ (E.below B)).mono ?_
  rintro e v1 ⟨⟨u, rfl, rfl⟩, hb⟩
  clear n0 n1 n2 n3 n4 n5 n6
  replace N := N.below hb
  replace B := B.trans (hb.mono B.size)
  clear hb
  obtain ⟨n0, n1, n2, n3, n4, n5, n6⟩ := id N
  go_wp2_with fail
  refine (CM _).mono ?_
  rintro e v2 ⟨rfl, hb⟩
  clear n0 n1 n2 n3 n4 n5 n6
  replace B := B.trans (hb.mono B.size)
  cases Q
  · obtain ⟨a, k0⟩ := (E.2.2.below B).cell
    obtain rfl := Z rfl
    go_wp2_with fail
    go_quiet (fail)
    go_wp2_with fail
    go_ret2
    exact ⟨⟨_, rfl, fv_no rfl a⟩, below_dq B nq⟩
  · go_wp2_with fail
    go_ret2
    exact ⟨⟨_, rfl, fv_yes rfl⟩, B⟩
/- The variadic sum of two times. -/
def twB (x y : Int) : Bool := !decide (1000000000000 < x + y)
def twI (x y : Int) : Int := sel (twB x y) (x + y)
theorem tw_no {x y : Int} (h : 1000000000000 < x + y) : twB x y = false ∧ twI x y = 0 := by
  have e : twB x y = false := by unfold twB; rw [decide_eq_true h]; rfl
  exact ⟨e, sel_f e _⟩
theorem tw_yes {x y : Int} (h : ¬ 1000000000000 < x + y) : twB x y = true ∧ twI x y = x + y := by
  have e : twB x y = true := by unfold twB; rw [decide_eq_false h]; rfl
  exact ⟨e, sel_t e _⟩
def pS (x y : Int) : Nat → Int | 0 => 0 | 1 => x | _ => x + y
set_option maxRecDepth 100000 in
set_option maxHeartbeats 4000000 in
theorem together_two (x y : Int) (j : Nat) (w : World) (E : ErE w 2) (c0 : w.cell? ⟨j, 0, none⟩ = some (.int .i64 x)) (c1 : w.cell? ⟨j, 1, none⟩ = some (.int .i64 y)) (hx : -1000000000000 ≤ x ∧ x ≤ 1000000000000) (hy : 0 ≤ y ∧ y ≤ 1000000000000) :
    Calls Tryd.prog 92 #[.slice (some ⟨j, 0, none⟩) 2 2] w fun e w' => (∃ v, e = .returned (.tuple #[.int .i64 (twI x y), v]) ∧ Fv (twB x y) v) ∧ Below w.heap.size w w' := by
  obtain ⟨a, k0⟩ := E.cell
  have hw : wrap64 (x + y) = x + y := Go.IntWalk.wrap64_in _ ⟨by omega, by omega⟩
  have hw1 : wrap64 x = x := Go.IntWalk.wrap64_in _ ⟨by omega, by omega⟩
  clear E
  go_enter Tryd.func92, Tryd.ntmps92
  go_wp2_with fail
  go_loopw [4, 9] (fun s4 i wr => ∃ k : Nat, k ≤ 2 ∧ i = .int .i64 (k : Int) ∧ s4 = .int .i64 (pS x y k) ∧ w = wr) (fun _ i _ => 2 - (intOf i).toNat)
  case atStart => exact ⟨0, Nat.zero_le _, rfl, rfl, by first | rfl | trivial⟩
  case round =>
    obtain ⟨k, hk, rfl, rfl, rfl⟩ := hrel
    match k, hk with
    | 0, _ =>
      go_wp2_with fail
      go_roundw
      case rel => exact ⟨1, by omega, by rfl, by simp [pS, hw1], by first | rfl | trivial⟩
      case measure => simp [intOf]
    | 1, _ =>
      go_wp2_with fail
      go_roundw
      case rel => exact ⟨2, by omega, by rfl, by simp [pS, hw], by first | rfl | trivial⟩
      case measure => simp [intOf]
    | 2, _ =>
      have hp : pS x y 2 = x + y := rfl
      rw [hp]
      by_cases hg : 1000000000000 < x + y
      · have HG : Hid (twB x y = false ∧ twI x y = 0) := tw_no hg
        go_wp2_with fail
        go_quiet (fail)
        go_wp2_with fail
        go_ret2
        exact ⟨⟨.iface 169 (.pointer (some a)), by rw [HG.out.2]; rfl, fv_no HG.out.1 a⟩, below_dq (Below.refl _ _) nq⟩
      · have HG : Hid (twB x y = true ∧ twI x y = x + y) := tw_yes hg
        go_wp2_with fail
        go_ret2
        exact ⟨⟨.nilIface, by rw [HG.out.2]; rfl, fv_yes HG.out.1⟩, Below.refl _ _⟩
theorem ErE.lt {w : World} {g : Nat} (h : ErE w g) : g < w.heap.size := by obtain ⟨a, h⟩ := h; exact h.2.1
theorem keepX {w : World} {g j k : Nat} {x u : Value} (h : w.cell? ⟨g, 0, none⟩ = some x) (hj : g ≠ j) : (w.setCell ⟨j, k, none⟩ u).cell? ⟨g, 0, none⟩ = some x := by
  rw [World.cell?_of_block (w := w) (Below.heap_setCell _ _ _ _ hj)]
  exact h
theorem keepY {w : World} {g j k o : Nat} {x u : Value} (h : w.cell? ⟨g, o, none⟩ = some x) (hj : j ≠ g) : (w.setCell ⟨j, k, none⟩ u).cell? ⟨g, o, none⟩ = some x := (World.cell?_setCell_other _ _ _ _ (fun e => hj (congrArg Addr.block e))).trans h
theorem below_set2 {B j : Nat} {w w' : World} (h : Below B w w') (hj : B ≤ j) (x y : Value) : Below B w ((w'.setCell ⟨j, 0, none⟩ x).setCell ⟨j, 1, none⟩ y) := (h.setCell (p := ⟨j, 0, none⟩) hj x).setCell (p := ⟨j, 1, none⟩) hj y
theorem sel_tt (x : Int) : sel true x = x := rfl
theorem sel_ff (x : Int) : sel false x = 0 := rfl
set_option maxRecDepth 100000 in
set_option maxHeartbeats 8000000 in
theorem outSpan_any (lo hi n d x : Int) (w : World) (E : ES w) :
    Calls Tryd.prog 67 #[.agg #[.int .i64 n, .int .i64 d, .int .i64 x], .agg #[.int .i64 lo, .int .i64 hi]] w fun e w' => (∃ v, e = .returned (.tuple #[.agg #[.int .i64 (gsL lo hi n d x), .int .i64 (gsH lo hi n d x)], v]) ∧ Fv (gsB lo hi n d x) v) ∧ Below w.heap.size w w' := by
  have A0 := Below.nw w (.cells #[.int .i64 n, .int .i64 d, .int .i64 x] 86)
  have A1 := Below.nw (w.alloc (.cells #[.int .i64 n, .int .i64 d, .int .i64 x] 86)) (.cells #[.int .i64 lo, .int .i64 hi] 25)
  have A2 := Below.nw ((w.alloc (.cells #[.int .i64 n, .int .i64 d, .int .i64 x] 86)).alloc (.cells #[.int .i64 lo, .int .i64 hi] 25)) (.cells #[.int .i64 0, .int .i64 0] 25)
  have N := ((Tx3.new w (.int .i64 n) (.int .i64 d) (.int .i64 x) 86).below A1).below A2
  have P := (Bx2.new (w.alloc (.cells #[.int .i64 n, .int .i64 d, .int .i64 x] 86)) (.int .i64 lo) (.int .i64 hi) 25).below A2
  have K := Bx2.new ((w.alloc (.cells #[.int .i64 n, .int .i64 d, .int .i64 x] 86)).alloc (.cells #[.int .i64 lo, .int .i64 hi] 25)) (.int .i64 0) (.int .i64 0) 25
  have B := (A0.trans (A1.mono A0.size)).trans (A2.mono (A0.trans (A1.mono A0.size)).size)
  simp only [World.size_alloc] at P K
  clear A0 A1 A2
  have CM := fun w' E => outMost_any n d x w' E
  have CI := fun w' => ok_any lo hi w'
  have HK : w.heap.size ≤ w.heap.size + 1 + 1 := by omega
  have nN := neNo
  have nY := neYes
  cases h1 : mzB n d x
  · have HG : Hid (gsB lo hi n d x = false) := gs_mz h1
    obtain ⟨e1, e2⟩ := gs_no HG.out
    rw [e1, e2]
    rw [h1] at CM
    clear h1 e1 e2 CI
    generalize mzT n d x = T at *
    go_enter Tryd.func67, Tryd.ntmps67
    go_upto_region 1 with fail
    generalize ((w.alloc (.cells #[.int .i64 n, .int .i64 d, .int .i64 x] 86)).alloc (.cells #[.int .i64 lo, .int .i64 hi] 25)).alloc (.cells #[.int .i64 0, .int .i64 0] 25) = v at *
    generalize w.heap.size + 1 + 1 = jk at *
    obtain ⟨n0, n1, n2, n3, n4, n5, n6⟩ := id N
    go_wp2_with fail
    refine (CM _ (E.em.below B)).mono ?_
    rintro e v1 ⟨⟨u, rfl, a, rfl⟩, hb⟩
    clear n0 n1 n2 n3 n4 n5 n6
    replace N := N.below hb; replace P := P.below hb; replace K := K.below hb; replace B := B.trans (hb.mono B.size); clear hb
    obtain ⟨k0, k1, k2, k3, k4⟩ := id K
    go_wp2_with fail
    exact bodyPost_ret (v := (.tuple #[.agg #[.int .i64 0, .int .i64 0], (.iface 169 (.pointer (some a)))])) (by simp (maxDischargeDepth := 6) [results, Tryd.results67, go_sem, *]) rfl ⟨⟨_, rfl, fv_no HG.out a⟩, below_set2 B HK _ _⟩
  cases h2 : okI lo hi
  · have HG : Hid (gsB lo hi n d x = false) := gs_iv h1 h2
    obtain ⟨e1, e2⟩ := gs_no HG.out
    rw [e1, e2]
    rw [h1] at CM
    rw [h2] at CI
    clear h1 e1 e2 h2
    generalize mzT n d x = T at *
    go_enter Tryd.func67, Tryd.ntmps67
    go_upto_region 1 with fail
    generalize ((w.alloc (.cells #[.int .i64 n, .int .i64 d, .int .i64 x] 86)).alloc (.cells #[.int .i64 lo, .int .i64 hi] 25)).alloc (.cells #[.int .i64 0, .int .i64 0] 25) = v at *
    generalize w.heap.size + 1 + 1 = jk at *
    obtain ⟨n0, n1, n2, n3, n4, n5, n6⟩ := id N
    go_wp2_with fail
    refine (CM _ (E.em.below B)).mono ?_
    rintro e v1 ⟨⟨u, rfl, rfl⟩, hb⟩
    clear n0 n1 n2 n3 n4 n5 n6
    replace N := N.below hb; replace P := P.below hb; replace K := K.below hb; replace B := B.trans (hb.mono B.size); clear hb
    obtain ⟨p0, p1, p2, p3, p4⟩ := id P
    go_wp2_with fail
    refine (CI _).mono ?_
    rintro e v2 ⟨rfl, hb⟩
    clear p0 p1 p2 p3 p4
    replace N := N.below hb; replace P := P.below hb; replace K := K.below hb; replace B := B.trans (hb.mono B.size); clear hb
    obtain ⟨a, g0⟩ := (E.1.below B).cell
    obtain ⟨k0, k1, k2, k3, k4⟩ := id K
    have hgk : 1 ≠ jk := Nat.ne_of_lt (Nat.lt_of_lt_of_le E.1.lt HK)
    go_upto_region 5 with fail
    refine wp_region_held_drew (S := (fun w' => w'.cell? ⟨1, 0, none⟩ = some (.iface 169 (.pointer (some a))))) (by kernel_rfl) ?_ (fun hHeld => ?_)
    · first | exact g0 | exact keepX (keepX g0 hgk) hgk
    refine wpAnyH_take (i := 0) (v := ?_) (by rw [List.getElem?_toArray]; rfl) (by kernel_rfl) (by kernel_rfl) (by kernel_rfl) (by intro _ _ _ h; exact h) (Or.inl ⟨by rfl, ?_⟩) (by assumption) ?_
    rotate_left
    · (intro w hSw; (try dsimp only at hSw); go_simp; all_goals with_reducible rfl)
    (try simp only [Act.put, List.setIfInBounds_toArray, List.set_cons_zero, List.set_cons_succ])
    refine wpAnyH_take (i := 1) (v := ?_) (by rw [List.getElem?_toArray]; rfl) (by kernel_rfl) (by kernel_rfl) (by kernel_rfl) (by intro _ _ _ h; exact h) (Or.inl ⟨by rfl, ?_⟩) (by assumption) ?_
    rotate_left
    · (intro w hSw; (try dsimp only at hSw); go_simp; all_goals with_reducible rfl)
    (try simp only [Act.put, List.setIfInBounds_toArray, List.set_cons_zero, List.set_cons_succ])
    refine wpAnyH_ready (rs := [2]) (by kernel_rfl) (by simp) ?_
    refine AllReadyH.cons (by rw [List.getElem?_toArray]; rfl) (fun K hK => ?_) AllReadyH.nil
    go_simp
    refine hK.out _ _ ?_ (fun hHeld => ?_)
    · first | exact g0 | exact keepX (keepX g0 hgk) hgk
    clear hK K
    (try simp only [Act.put, List.setIfInBounds_toArray, List.set_cons_zero, List.set_cons_succ])
    refine wpAnyH_take (i := 3) (v := ?_) (by rw [List.getElem?_toArray]; rfl) (by kernel_rfl) (by kernel_rfl) (by kernel_rfl) (by intro _ _ _ h; exact h) (Or.inl ⟨by rfl, ?_⟩) (by assumption) ?_
    rotate_left
    · (intro w hSw; (try dsimp only at hSw); go_simp; all_goals with_reducible rfl)
    (try simp only [Act.put, List.setIfInBounds_toArray, List.set_cons_zero, List.set_cons_succ])
    refine wpAnyH_done (by kernel_rfl) ?_ _
    go_wp2_with fail
    exact bodyPost_ret (v := (.tuple #[.agg #[.int .i64 0, .int .i64 0], (.iface 169 (.pointer (some a)))])) (by simp (maxDischargeDepth := 6) [results, Tryd.results67, go_sem, *]) rfl ⟨⟨_, rfl, fv_no HG.out a⟩, below_set2 (Below.drew B) HK _ _⟩
  have hq := okI_t h2
  have hp := mz_pos h1
  by_cases h3 : 1000000000000 < hi + mzT n d x
  · have HG : Hid (gsB lo hi n d x = false) := gs_far h1 h3
    obtain ⟨e1, e2⟩ := gs_no HG.out
    rw [e1, e2]
    rw [h1] at CM
    rw [h2] at CI
    clear h1 e1 e2 h2
    generalize mzT n d x = T at *
    go_enter Tryd.func67, Tryd.ntmps67
    go_upto_region 1 with fail
    generalize ((w.alloc (.cells #[.int .i64 n, .int .i64 d, .int .i64 x] 86)).alloc (.cells #[.int .i64 lo, .int .i64 hi] 25)).alloc (.cells #[.int .i64 0, .int .i64 0] 25) = v at *
    generalize w.heap.size + 1 + 1 = jk at *
    obtain ⟨n0, n1, n2, n3, n4, n5, n6⟩ := id N
    go_wp2_with fail
    refine (CM _ (E.em.below B)).mono ?_
    rintro e v1 ⟨⟨u, rfl, rfl⟩, hb⟩
    clear n0 n1 n2 n3 n4 n5 n6
    replace N := N.below hb; replace P := P.below hb; replace K := K.below hb; replace B := B.trans (hb.mono B.size); clear hb
    obtain ⟨p0, p1, p2, p3, p4⟩ := id P
    go_wp2_with fail
    refine (CI _).mono ?_
    rintro e v2 ⟨rfl, hb⟩
    clear p0 p1 p2 p3 p4
    replace N := N.below hb; replace P := P.below hb; replace K := K.below hb; replace B := B.trans (hb.mono B.size); clear hb
    obtain ⟨p0, p1, p2, p3, p4⟩ := id P
    have A3 := Below.nw v2 (.cells #[.int .i64 hi, .int .i64 T] 3)
    go_wp2_with fail
    refine (together_two hi T v2.heap.size _ (E.2.2.2.below (B.trans (A3.mono B.size))) (by simp) (by simp) ⟨by omega, by omega⟩ ⟨by omega, by omega⟩).mono ?_
    rintro e v3 ⟨⟨u, rfl, hv⟩, hb⟩
    obtain ⟨a, rfl⟩ := hv.no (tw_no h3).1
    rw [(tw_no h3).2]
    clear p0 p1 p2 p3 p4
    replace hb := A3.trans (hb.mono A3.size)
    replace N := N.below hb; replace P := P.below hb; replace K := K.below hb; replace B := B.trans (hb.mono B.size); clear hb
    obtain ⟨k0, k1, k2, k3, k4⟩ := id K
    clear A3 hv hq hp h3
    go_wp2_with fail
    exact bodyPost_ret (v := (.tuple #[.agg #[.int .i64 0, .int .i64 0], (.iface 169 (.pointer (some a)))])) (by simp (maxDischargeDepth := 6) [results, Tryd.results67, go_sem, *]) rfl ⟨⟨_, rfl, fv_no HG.out a⟩, below_set2 B HK _ _⟩
  · obtain ⟨e1, e2, e3⟩ := gs_in h1 h2 h3
    have HG : Hid (gsB lo hi n d x = true) := e1
    rw [e2, e3]
    rw [h1] at CM
    rw [h2] at CI
    clear h1 e1 e2 e3 h2
    generalize mzT n d x = T at *
    go_enter Tryd.func67, Tryd.ntmps67
    go_upto_region 1 with fail
    generalize ((w.alloc (.cells #[.int .i64 n, .int .i64 d, .int .i64 x] 86)).alloc (.cells #[.int .i64 lo, .int .i64 hi] 25)).alloc (.cells #[.int .i64 0, .int .i64 0] 25) = v at *
    generalize w.heap.size + 1 + 1 = jk at *
    obtain ⟨n0, n1, n2, n3, n4, n5, n6⟩ := id N
    go_wp2_with fail
    refine (CM _ (E.em.below B)).mono ?_
    rintro e v1 ⟨⟨u, rfl, rfl⟩, hb⟩
    clear n0 n1 n2 n3 n4 n5 n6
    replace N := N.below hb; replace P := P.below hb; replace K := K.below hb; replace B := B.trans (hb.mono B.size); clear hb
    obtain ⟨p0, p1, p2, p3, p4⟩ := id P
    go_wp2_with fail
    refine (CI _).mono ?_
    rintro e v2 ⟨rfl, hb⟩
    clear p0 p1 p2 p3 p4
    replace N := N.below hb; replace P := P.below hb; replace K := K.below hb; replace B := B.trans (hb.mono B.size); clear hb
    obtain ⟨p0, p1, p2, p3, p4⟩ := id P
    have A3 := Below.nw v2 (.cells #[.int .i64 hi, .int .i64 T] 3)
    go_wp2_with fail
    refine (together_two hi T v2.heap.size _ (E.2.2.2.below (B.trans (A3.mono B.size))) (by simp) (by simp) ⟨by omega, by omega⟩ ⟨by omega, by omega⟩).mono ?_
    rintro e v3 ⟨⟨u, rfl, hv⟩, hb⟩
    obtain rfl := hv.yes (tw_yes (Int.not_lt.2 h3)).1
    rw [(tw_yes (Int.not_lt.2 h3)).2]
    clear p0 p1 p2 p3 p4
    replace hb := A3.trans (hb.mono A3.size)
    replace N := N.below hb; replace P := P.below hb; replace K := K.below hb; replace B := B.trans (hb.mono B.size); clear hb
    obtain ⟨k0, k1, k2, k3, k4⟩ := id K
    obtain ⟨p0, p1, p2, p3, p4⟩ := id P
    clear A3 hv hq hp h3
    go_wp2_with fail
    exact bodyPost_ret (v := (.tuple #[.agg #[.int .i64 lo, .int .i64 (hi + T)], .nilIface])) (by simp (maxDischargeDepth := 6) [results, Tryd.results67, go_sem, *]) rfl ⟨⟨_, rfl, fv_yes HG.out⟩, below_set2 B HK _ _⟩
set_option maxRecDepth 100000 in
set_option maxHeartbeats 8000000 in
theorem implGateSpan_any (lo hi n d x : Int) (w : World) (E : ES w) :
    Calls Tryd.prog 24 #[.agg #[.int .i64 lo, .int .i64 hi], .agg #[.int .i64 n, .int .i64 d], .int .i64 x] w fun e w' => e = .returned (.tuple #[.agg #[.int .i64 (gsL lo hi n d x), .int .i64 (gsH lo hi n d x)], .bool (gsB lo hi n d x)]) ∧ Below w.heap.size w w' := by
  have A0 := Below.nw w (.cells #[.int .i64 lo, .int .i64 hi] 25)
  have A1 := Below.nw (w.alloc (.cells #[.int .i64 lo, .int .i64 hi] 25)) (.cells #[.int .i64 n, .int .i64 d] 27)
  have A2 := Below.nw ((w.alloc (.cells #[.int .i64 lo, .int .i64 hi] 25)).alloc (.cells #[.int .i64 n, .int .i64 d] 27)) (.cells #[.int .i64 0, .int .i64 0] 25)
  have P := ((Bx2.new w (.int .i64 lo) (.int .i64 hi) 25).below A1).below A2
  have D := (Bx2.new (w.alloc (.cells #[.int .i64 lo, .int .i64 hi] 25)) (.int .i64 n) (.int .i64 d) 27).below A2
  have K := Bx2.new ((w.alloc (.cells #[.int .i64 lo, .int .i64 hi] 25)).alloc (.cells #[.int .i64 n, .int .i64 d] 27)) (.int .i64 0) (.int .i64 0) 25
  have B := (A0.trans (A1.mono A0.size)).trans (A2.mono (A0.trans (A1.mono A0.size)).size)
  simp only [World.size_alloc] at D K
  clear A0 A1 A2
  have CG := fun w' E => outSpan_any lo hi n d x w' E
  have HK : w.heap.size ≤ w.heap.size + 1 + 1 := by omega
  have eN := eqNo
  have eY := eqYes
  generalize gsL lo hi n d x = X at *
  generalize gsH lo hi n d x = Y at *
  generalize gsB lo hi n d x = Q at *
  go_enter Tryd.func24, Tryd.ntmps24
  go_upto_region 1 with fail
  generalize ((w.alloc (.cells #[.int .i64 lo, .int .i64 hi] 25)).alloc (.cells #[.int .i64 n, .int .i64 d] 27)).alloc (.cells #[.int .i64 0, .int .i64 0] 25) = v at *
  generalize w.heap.size + 1 + 1 = jk at *
  obtain ⟨p0, p1, p2, p3, p4⟩ := id P
  obtain ⟨d0, d1, d2, d3, d4⟩ := id D
  go_wp2_with fail
  refine (CG _ (E.below B)).mono ?_
  rintro e v1 ⟨⟨u, rfl, hv⟩, hb⟩
  clear p0 p1 p2 p3 p4
  clear d0 d1 d2 d3 d4
  replace K := K.below hb
  replace B := B.trans (hb.mono B.size)
  clear hb P D
  have NL := Below.nw v1 (.cells #[.int .i64 X, .int .i64 Y] 25)
  have Z := Bx2.new v1 (.int .i64 X) (.int .i64 Y) 25
  have hjk : jk ≠ v1.heap.size := Nat.ne_of_lt K.1
  go_upto_region 2 with fail
  replace K := K.below NL
  replace B := B.trans (NL.mono B.size)
  clear NL
  generalize v1.alloc (.cells #[.int .i64 X, .int .i64 Y] 25) = v2 at *
  generalize v1.heap.size = jz at *
  obtain ⟨k0, k1, k2, k3, k4⟩ := id K
  obtain ⟨z0, z1, z2, z3, z4⟩ := id Z
  cases Q
  · obtain ⟨a, rfl⟩ := hv
    refine wp_region_held_drew (S := (fun w' => w'.cell? ⟨jz, 0, none⟩ = some (.int .i64 X) ∧ w'.cell? ⟨jz, 1, none⟩ = some (.int .i64 Y))) (by kernel_rfl) ?_ (fun hHeld => ?_)
    · first | exact ⟨z1, z2⟩ | exact ⟨keepY (keepY z1 hjk) hjk, keepY (keepY z2 hjk) hjk⟩
    refine wpAnyH_take (i := 0) (v := ?_) (by rw [List.getElem?_toArray]; rfl) (by kernel_rfl) (by kernel_rfl) (by kernel_rfl) (by intro _ _ _ h; exact h) (Or.inl ⟨by rfl, ?_⟩) (by assumption) ?_
    rotate_left
    · (intro w hSw; (try dsimp only at hSw); go_simp; all_goals with_reducible rfl)
    (try simp only [Act.put, List.setIfInBounds_toArray, List.set_cons_zero, List.set_cons_succ])
    refine wpAnyH_take (i := 1) (v := ?_) (by rw [List.getElem?_toArray]; rfl) (by kernel_rfl) (by kernel_rfl) (by kernel_rfl) (by intro _ _ _ h; exact h) (Or.inl ⟨by rfl, ?_⟩) (by assumption) ?_
    rotate_left
    · (intro w hSw; (try dsimp only at hSw); go_simp; all_goals with_reducible rfl)
    (try simp only [Act.put, List.setIfInBounds_toArray, List.set_cons_zero, List.set_cons_succ])
    refine wpAnyH_take (i := 2) (v := ?_) (by rw [List.getElem?_toArray]; rfl) (by kernel_rfl) (by kernel_rfl) (by kernel_rfl) (by intro _ _ _ h; exact h) (Or.inl ⟨by rfl, ?_⟩) (by assumption) ?_
    rotate_left
    · (intro w hSw; (try dsimp only at hSw); go_simp; all_goals with_reducible rfl)
    (try simp only [Act.put, List.setIfInBounds_toArray, List.set_cons_zero, List.set_cons_succ])
    refine wpAnyH_ready (rs := [3]) (by kernel_rfl) (by simp) ?_
    refine AllReadyH.cons (by rw [List.getElem?_toArray]; rfl) (fun K hK => ?_) AllReadyH.nil
    go_simp
    refine hK.out _ _ ?_ (fun hHeld => ?_)
    · first | exact ⟨z1, z2⟩ | exact ⟨keepY (keepY z1 hjk) hjk, keepY (keepY z2 hjk) hjk⟩
    clear hK K
    (try simp only [Act.put, List.setIfInBounds_toArray, List.set_cons_zero, List.set_cons_succ])
    refine wpAnyH_take (i := 4) (v := ?_) (by rw [List.getElem?_toArray]; rfl) (by kernel_rfl) (by kernel_rfl) (by kernel_rfl) (by intro _ _ _ h; exact h) (Or.inl ⟨by rfl, ?_⟩) (by assumption) ?_
    rotate_left
    · (intro w hSw; (try dsimp only at hSw); go_simp; all_goals with_reducible rfl)
    (try simp only [Act.put, List.setIfInBounds_toArray, List.set_cons_zero, List.set_cons_succ])
    refine wpAnyH_done (by kernel_rfl) ?_ _
    go_wp2_with fail
    exact bodyPost_ret (v := (.tuple #[.agg #[.int .i64 X, .int .i64 Y], .bool false])) (by simp (maxDischargeDepth := 6) [results, Tryd.results24, go_sem, *]) rfl ⟨rfl, below_set2 (Below.drew B) HK _ _⟩
  · obtain rfl := hv
    refine wp_region_held_drew (S := (fun w' => w'.cell? ⟨jz, 0, none⟩ = some (.int .i64 X) ∧ w'.cell? ⟨jz, 1, none⟩ = some (.int .i64 Y))) (by kernel_rfl) ?_ (fun hHeld => ?_)
    · first | exact ⟨z1, z2⟩ | exact ⟨keepY (keepY z1 hjk) hjk, keepY (keepY z2 hjk) hjk⟩
    refine wpAnyH_take (i := 0) (v := ?_) (by rw [List.getElem?_toArray]; rfl) (by kernel_rfl) (by kernel_rfl) (by kernel_rfl) (by intro _ _ _ h; exact h) (Or.inl ⟨by rfl, ?_⟩) (by assumption) ?_
    rotate_left
    · (intro w hSw; (try dsimp only at hSw); go_simp; all_goals with_reducible rfl)
    (try simp only [Act.put, List.setIfInBounds_toArray, List.set_cons_zero, List.set_cons_succ])
    refine wpAnyH_take (i := 1) (v := ?_) (by rw [List.getElem?_toArray]; rfl) (by kernel_rfl) (by kernel_rfl) (by kernel_rfl) (by intro _ _ _ h; exact h) (Or.inl ⟨by rfl, ?_⟩) (by assumption) ?_
    rotate_left
    · (intro w hSw; (try dsimp only at hSw); go_simp; all_goals with_reducible rfl)
    (try simp only [Act.put, List.setIfInBounds_toArray, List.set_cons_zero, List.set_cons_succ])
    refine wpAnyH_take (i := 2) (v := ?_) (by rw [List.getElem?_toArray]; rfl) (by kernel_rfl) (by kernel_rfl) (by kernel_rfl) (by intro _ _ _ h; exact h) (Or.inl ⟨by rfl, ?_⟩) (by assumption) ?_
    rotate_left
    · (intro w hSw; (try dsimp only at hSw); go_simp; all_goals with_reducible rfl)
    (try simp only [Act.put, List.setIfInBounds_toArray, List.set_cons_zero, List.set_cons_succ])
    refine wpAnyH_ready (rs := [3]) (by kernel_rfl) (by simp) ?_
    refine AllReadyH.cons (by rw [List.getElem?_toArray]; rfl) (fun K hK => ?_) AllReadyH.nil
    go_simp
    refine hK.out _ _ ?_ (fun hHeld => ?_)
    · first | exact ⟨z1, z2⟩ | exact ⟨keepY (keepY z1 hjk) hjk, keepY (keepY z2 hjk) hjk⟩
    clear hK K
    (try simp only [Act.put, List.setIfInBounds_toArray, List.set_cons_zero, List.set_cons_succ])
    refine wpAnyH_take (i := 4) (v := ?_) (by rw [List.getElem?_toArray]; rfl) (by kernel_rfl) (by kernel_rfl) (by kernel_rfl) (by intro _ _ _ h; exact h) (Or.inl ⟨by rfl, ?_⟩) (by assumption) ?_
    rotate_left
    · (intro w hSw; (try dsimp only at hSw); go_simp; all_goals with_reducible rfl)
    (try simp only [Act.put, List.setIfInBounds_toArray, List.set_cons_zero, List.set_cons_succ])
    refine wpAnyH_done (by kernel_rfl) ?_ _
    go_wp2_with fail
    exact bodyPost_ret (v := (.tuple #[.agg #[.int .i64 X, .int .i64 Y], .bool true])) (by simp (maxDischargeDepth := 6) [results, Tryd.results24, go_sem, *]) rfl ⟨rfl, below_set2 (Below.drew B) HK _ _⟩
set_option maxRecDepth 100000 in
set_option maxHeartbeats 8000000 in
theorem implBusyStill_any (n d f x c : Int) (w : World) (E : EM w) :
    Calls Tryd.prog 30 #[.agg #[.int .i64 n, .int .i64 d], .int .i64 f, .int .i64 x, .int .i64 c] w fun e w' => e = .returned (.bool (bsB n d f x c)) ∧ Below w.heap.size w w' := by
  have B := Below.nw w (.cells #[.int .i64 n, .int .i64 d] 27)
  have D := Bx2.new w (.int .i64 n) (.int .i64 d) 27
  have CM := fun w' E => outMost_any n d x w' E
  have C1 := fun w' => isTime_any f w'
  have C2 := fun w' => isTime_any c w'
  have nN := neNo
  have nY := neYes
  cases h1 : mzB n d x
  · rw [bs_mz h1]
    rw [h1] at CM
    clear h1 C1 C2
    generalize mzT n d x = T at *
    go_enter Tryd.func30, Tryd.ntmps30
    go_upto_region 1 with fail
    generalize w.alloc (.cells #[.int .i64 n, .int .i64 d] 27) = v at *
    obtain ⟨d0, d1, d2, d3, d4⟩ := id D
    go_wp2_with fail
    refine (CM _ (E.below B)).mono ?_
    rintro e v1 ⟨⟨u, rfl, a, rfl⟩, hb⟩
    clear d0 d1 d2 d3 d4
    replace B := B.trans (hb.mono B.size)
    go_wp2_with fail
    go_ret
    exact ⟨rfl, B⟩
  cases h2 : okT f
  · rw [bs_f h2]
    rw [h1] at CM
    rw [h2] at C1
    clear h1 h2 C2
    generalize mzT n d x = T at *
    go_enter Tryd.func30, Tryd.ntmps30
    go_upto_region 1 with fail
    generalize w.alloc (.cells #[.int .i64 n, .int .i64 d] 27) = v at *
    obtain ⟨d0, d1, d2, d3, d4⟩ := id D
    go_wp2_with fail
    refine (CM _ (E.below B)).mono ?_
    rintro e v1 ⟨⟨u, rfl, rfl⟩, hb⟩
    clear d0 d1 d2 d3 d4
    replace B := B.trans (hb.mono B.size)
    go_wp2_with fail
    refine (C1 _).mono ?_
    rintro e w' ⟨rfl, rfl⟩
    go_wp2_with fail
    go_ret
    exact ⟨rfl, B⟩
  cases h3 : okT c
  · rw [bs_c h3]
    rw [h1] at CM
    rw [h2] at C1
    rw [h3] at C2
    clear h1 h2 h3
    generalize mzT n d x = T at *
    go_enter Tryd.func30, Tryd.ntmps30
    go_upto_region 1 with fail
    generalize w.alloc (.cells #[.int .i64 n, .int .i64 d] 27) = v at *
    obtain ⟨d0, d1, d2, d3, d4⟩ := id D
    go_wp2_with fail
    refine (CM _ (E.below B)).mono ?_
    rintro e v1 ⟨⟨u, rfl, rfl⟩, hb⟩
    clear d0 d1 d2 d3 d4
    replace B := B.trans (hb.mono B.size)
    go_wp2_with fail
    refine (C1 _).mono ?_
    rintro e w' ⟨rfl, rfl⟩
    go_wp2_with fail
    refine (C2 _).mono ?_
    rintro e w' ⟨rfl, rfl⟩
    go_wp2_with fail
    go_ret
    exact ⟨rfl, B⟩
  by_cases h4 : c < f
  · rw [bs_lt h4]
    rw [h1] at CM
    rw [h2] at C1
    rw [h3] at C2
    clear h1 h2 h3
    generalize mzT n d x = T at *
    go_enter Tryd.func30, Tryd.ntmps30
    go_upto_region 1 with fail
    generalize w.alloc (.cells #[.int .i64 n, .int .i64 d] 27) = v at *
    obtain ⟨d0, d1, d2, d3, d4⟩ := id D
    go_wp2_with fail
    refine (CM _ (E.below B)).mono ?_
    rintro e v1 ⟨⟨u, rfl, rfl⟩, hb⟩
    clear d0 d1 d2 d3 d4
    replace B := B.trans (hb.mono B.size)
    go_wp2_with fail
    refine (C1 _).mono ?_
    rintro e w' ⟨rfl, rfl⟩
    go_wp2_with fail
    refine (C2 _).mono ?_
    rintro e w' ⟨rfl, rfl⟩
    go_wp2_with fail
    go_ret
    exact ⟨rfl, B⟩
  rw [bs_in h1 h2 h3 h4]
  have a2 := okT_t h2
  have a3 := okT_t h3
  have hw : IntKind.i64.wrap (c - f) = c - f := Go.IntWalk.i64_in _ ⟨by omega, by omega⟩
  have CL := fun w' => lei_any n d (c - f) w'
  rw [h1] at CM
  rw [h2] at C1
  rw [h3] at C2
  clear h1 h2 h3 a2 a3
  generalize mzT n d x = T at *
  generalize leT n d (c - f) = l at *
  generalize leB n d (c - f) = Q at *
  go_enter Tryd.func30, Tryd.ntmps30
  go_upto_region 1 with fail
  generalize w.alloc (.cells #[.int .i64 n, .int .i64 d] 27) = v at *
  obtain ⟨d0, d1, d2, d3, d4⟩ := id D
  go_wp2_with fail
  refine (CM _ (E.below B)).mono ?_
  rintro e v1 ⟨⟨u, rfl, rfl⟩, hb⟩
  clear d0 d1 d2 d3 d4
  replace D := D.below hb
  replace B := B.trans (hb.mono B.size)
  clear hb
  go_wp2_with fail
  refine (C1 _).mono ?_
  rintro e w' ⟨rfl, rfl⟩
  go_wp2_with fail
  refine (C2 _).mono ?_
  rintro e w' ⟨rfl, rfl⟩
  obtain ⟨d0, d1, d2, d3, d4⟩ := id D
  go_wp2_with fail
  refine (CL _).mono ?_
  rintro e v2 ⟨rfl, hb⟩
  clear d0 d1 d2 d3 d4
  replace B := B.trans (hb.mono B.size)
  go_wp2_with fail
  go_ret
  exact ⟨rfl, B⟩
end Go.Proofs.YtcakhfobkbgfoaaDoor
