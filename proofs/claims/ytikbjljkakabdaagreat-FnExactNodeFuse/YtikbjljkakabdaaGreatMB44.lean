/- NodeFuse (the specification), over arrays of cells. -/
import Derived.Test.YtikbjljkakabdaaGreatMB25
import Derived.Test.YtikbjljkakabdaaGreatMB40
import Derived.Test.YtikbjljkakabdaaGreatMB43
namespace Go.Proofs.YtikbjljkakabdaaGreat
open Go.RowKit
set_option linter.unusedVariables false
set_option maxRecDepth 100000
set_option maxHeartbeats 16000000
theorem fx {w : World} {base : Nat} {T : TypeId} {sz n : Nat} {v : Value} {F : Nat → Value} (h : w.ownsRow base T sz v n ((List.range (n * sz)).map F)) : ∃ a c, v = .slice a n c ∧ Rwo w base w.heap.size T sz a n c F := by
 have h' := h
 rcases h.2 with ⟨rfl, h0⟩ | ⟨g, cap, cur, rfl, _⟩
 ·subst h0; exact ⟨none, 0, rfl, h', fun g e => (World.ownsRow.lt h' g e).2⟩
 ·exact ⟨_, cap, rfl, h', fun g e => (World.ownsRow.lt h' g e).2⟩
theorem m9 {w : World} {a : Option Addr} {n : Nat} {G : Nat → VT} (h : az w a (n * 2) (au G)) : Src w a n G := by
 rcases h with h | ⟨b, off, rfl, hp⟩
 ·exact .inl (by omega)
 ·refine .inr ⟨b, off, rfl, hp.1, fun i hi => ?_⟩
  have q := hp.elIval hi (show G i = ((G i).1, (G i).2) from rfl)
  exact ⟨q.1, q.2⟩
def cQ (y : CfX) (x : NdX) (ct : Int) : NdX × Int := match cw y x ct == 0 with
 | false => (match cw y x ct == 1 with | true => (zX 0 0 0 0 0 0, 1) | false => (x, 2))
 | true => match dg y x ct == 10 with
  | true => (x, 10)
  | false => match fuC (aq y x ct) (ap y x ct) x.kn (gV ((caL x.QM x.np y.dn y.dd ct y.ag).map cV)) ((caL x.QM x.np y.dn y.dd ct y.ag).map cV).length y.li y.le == 2 with
   | true => (x, 11)
   | false => match fuC (aq y x ct) (ap y x ct) x.kn (gV ((caL x.QM x.np y.dn y.dd ct y.ag).map cV)) ((caL x.QM x.np y.dn y.dd ct y.ag).map cV).length y.li y.le == 3 with
    | true => (x, 12)
    | false => match fuC (aq y x ct) (ap y x ct) x.kn (gV ((caL x.QM x.np y.dn y.dd ct y.ag).map cV)) ((caL x.QM x.np y.dn y.dd ct y.ag).map cV).length y.li y.le == 4 with
     | true => (x, 3)
     | false => ({ x with kn := true, lo := fuL (aq y x ct) (ap y x ct) x.kn (gV ((caL x.QM x.np y.dn y.dd ct y.ag).map cV)) ((caL x.QM x.np y.dn y.dd ct y.ag).map cV).length y.li y.le, hi := fuH (aq y x ct) (ap y x ct) x.kn (gV ((caL x.QM x.np y.dn y.dd ct y.ag).map cV)) ((caL x.QM x.np y.dn y.dd ct y.ag).map cV).length y.li y.le, la := ct, mo := stM x.mo x.ep x.si 3 ct, ep := stE x.mo x.ep x.si 3 ct, si := stS x.mo x.ep x.si 3 ct, QM := gP (mrL x.QM x.np y.dn y.dd ct y.ag (fuL (aq y x ct) (ap y x ct) x.kn (gV ((caL x.QM x.np y.dn y.dd ct y.ag).map cV)) ((caL x.QM x.np y.dn y.dd ct y.ag).map cV).length y.li y.le) (fuH (aq y x ct) (ap y x ct) x.kn (gV ((caL x.QM x.np y.dn y.dd ct y.ag).map cV)) ((caL x.QM x.np y.dn y.dd ct y.ag).map cV).length y.li y.le)), np := (mrL x.QM x.np y.dn y.dd ct y.ag (fuL (aq y x ct) (ap y x ct) x.kn (gV ((caL x.QM x.np y.dn y.dd ct y.ag).map cV)) ((caL x.QM x.np y.dn y.dd ct y.ag).map cV).length y.li y.le) (fuH (aq y x ct) (ap y x ct) x.kn (gV ((caL x.QM x.np y.dn y.dd ct y.ag).map cV)) ((caL x.QM x.np y.dn y.dd ct y.ag).map cV).length y.li y.le)).length }, 0)
theorem q5 (y : CfX) (x : NdX) (ct : Int) : cQ y x ct = (match cw y x ct == 0 with
 | false => (match cw y x ct == 1 with | true => (zX 0 0 0 0 0 0, 1) | false => (x, 2))
 | true => match dg y x ct == 10 with
  | true => (x, 10)
  | false => match fuC (aq y x ct) (ap y x ct) x.kn (gV ((caL x.QM x.np y.dn y.dd ct y.ag).map cV)) ((caL x.QM x.np y.dn y.dd ct y.ag).map cV).length y.li y.le == 2 with
   | true => (x, 11)
   | false => match fuC (aq y x ct) (ap y x ct) x.kn (gV ((caL x.QM x.np y.dn y.dd ct y.ag).map cV)) ((caL x.QM x.np y.dn y.dd ct y.ag).map cV).length y.li y.le == 3 with
    | true => (x, 12)
    | false => match fuC (aq y x ct) (ap y x ct) x.kn (gV ((caL x.QM x.np y.dn y.dd ct y.ag).map cV)) ((caL x.QM x.np y.dn y.dd ct y.ag).map cV).length y.li y.le == 4 with
     | true => (x, 3)
     | false => ({ x with kn := true, lo := fuL (aq y x ct) (ap y x ct) x.kn (gV ((caL x.QM x.np y.dn y.dd ct y.ag).map cV)) ((caL x.QM x.np y.dn y.dd ct y.ag).map cV).length y.li y.le, hi := fuH (aq y x ct) (ap y x ct) x.kn (gV ((caL x.QM x.np y.dn y.dd ct y.ag).map cV)) ((caL x.QM x.np y.dn y.dd ct y.ag).map cV).length y.li y.le, la := ct, mo := stM x.mo x.ep x.si 3 ct, ep := stE x.mo x.ep x.si 3 ct, si := stS x.mo x.ep x.si 3 ct, QM := gP (mrL x.QM x.np y.dn y.dd ct y.ag (fuL (aq y x ct) (ap y x ct) x.kn (gV ((caL x.QM x.np y.dn y.dd ct y.ag).map cV)) ((caL x.QM x.np y.dn y.dd ct y.ag).map cV).length y.li y.le) (fuH (aq y x ct) (ap y x ct) x.kn (gV ((caL x.QM x.np y.dn y.dd ct y.ag).map cV)) ((caL x.QM x.np y.dn y.dd ct y.ag).map cV).length y.li y.le)), np := (mrL x.QM x.np y.dn y.dd ct y.ag (fuL (aq y x ct) (ap y x ct) x.kn (gV ((caL x.QM x.np y.dn y.dd ct y.ag).map cV)) ((caL x.QM x.np y.dn y.dd ct y.ag).map cV).length y.li y.le) (fuH (aq y x ct) (ap y x ct) x.kn (gV ((caL x.QM x.np y.dn y.dd ct y.ag).map cV)) ((caL x.QM x.np y.dn y.dd ct y.ag).map cV).length y.li y.le)).length }, 0)) := rfl
attribute [-go_sem] loadCells storeCells in
theorem pg (AC AN : Array Value) (y : CfX) (x : NdX) (ct : Int) (w : World) (HC : CfS w AC y) (HN : NdS w AN x) :
 Calls Tryz.prog 19 #[.agg AC, .agg AN, .int .i64 ct] w fun e w' => ∃ R, e = .returned (.tuple #[.agg R, .int .i64 (cQ y x ct).2]) ∧ NdO w' w.heap.size w'.heap.size R (cQ y x ct).1 ∧ Below w.heap.size w w' := by
 have HFX := q5 y x ct
 generalize cQ y x ct = FX at *
 have CST := fun (v : World) (h : Below w.heap.size w v) => m6 AC AN y x ct v (HC.below h) (HN.below h)
 have CNO := fun (v : World) (h : Below w.heap.size w v) => qJ AC AN y x ct v (HC.below h) (HN.below h)
 have CBB := fun (v : World) (h : Below w.heap.size w v) => gY AN x v (HN.below h)
 have CBA := fun (hs : x.na ≤ 16 ∧ x.np ≤ 8 ∧ x.nh ≤ 16) (v : World) (h : Below w.heap.size w v) => gX AN x 2 v (HN.below h) (by decide) hs
 have CCP := fun (hs : x.na ≤ 16 ∧ x.np ≤ 8 ∧ x.nh ≤ 16) (v : World) (h : Below w.heap.size w v) => pf AN x v (HN.below h) hs
 have CLV := fun (v : World) (h : Below w.heap.size w v) => ph AN x 3 ct v (HN.below h)
 obtain ⟨p, d, rfl, -, -⟩ := HC
 obtain ⟨aa, ac, pa, pc, ha, hc, rfl, hl, -, sP, -⟩ := HN
 have hfn : ((caL x.QM x.np y.dn y.dd ct y.ag).map cV).length ≤ maxLen := by rw [List.length_map]; exact Nat.le_trans (fk ..) (by decide)
 have CPC := fun (v : World) (h : Below w.heap.size w v) => co pa x.np pc x.QM y.dn y.dd ct y.ag v hl.2.1 (sP.below h).src
 have CFU := fun (v : World) (fa : Option Addr) (fc : Nat) (h : Src v fa ((caL x.QM x.np y.dn y.dd ct y.ag).map cV).length (gV ((caL x.QM x.np y.dn y.dd ct y.ag).map cV))) => qI (aq y x ct) (ap y x ct) x.kn fa ((caL x.QM x.np y.dn y.dd ct y.ag).map cV).length fc (gV ((caL x.QM x.np y.dn y.dd ct y.ag).map cV)) y.li y.le v hfn h
 have CPM := fun (v : World) (h : Below w.heap.size w v) => ei pa x.np pc x.QM y.dn y.dd ct y.ag (fuL (aq y x ct) (ap y x ct) x.kn (gV ((caL x.QM x.np y.dn y.dd ct y.ag).map cV)) ((caL x.QM x.np y.dn y.dd ct y.ag).map cV).length y.li y.le) (fuH (aq y x ct) (ap y x ct) x.kn (gV ((caL x.QM x.np y.dn y.dd ct y.ag).map cV)) ((caL x.QM x.np y.dn y.dd ct y.ag).map cV).length y.li y.le) v hl.2.1 (sP.below h).src
 have hml : (mrL x.QM x.np y.dn y.dd ct y.ag (fuL (aq y x ct) (ap y x ct) x.kn (gV ((caL x.QM x.np y.dn y.dd ct y.ag).map cV)) ((caL x.QM x.np y.dn y.dd ct y.ag).map cV).length y.li y.le) (fuH (aq y x ct) (ap y x ct) x.kn (gV ((caL x.QM x.np y.dn y.dd ct y.ag).map cV)) ((caL x.QM x.np y.dn y.dd ct y.ag).map cV).length y.li y.le)).length ≤ 1048576 := Nat.le_trans (dK ..) (by decide)
 clear hl sP hfn
 generalize ((caL x.QM x.np y.dn y.dd ct y.ag).map cV) = LL at *
 have A0 := Below.nw w (.cells (cfV y p d) 66)
 have A1 := Below.nw (w.alloc (.cells (cfV y p d) 66)) (.cells (ndV x aa ac pa pc ha hc) 57)
 have A2 := Below.nw (((w.alloc (.cells (cfV y p d) 66))).alloc (.cells (ndV x aa ac pa pc ha hc) 57)) (.cells #[.int .i64 0, .int .i64 0, .int .i64 0, .int .i64 0, .bool false, .int .i64 0, .int .i64 0, .int .i64 0, .int .i64 0, .int .i64 0, .slice none 0 0, .slice none 0 0, .bool false, .int .i64 0, .slice none 0 0, .int .i64 0] 57)
 have C := ((Bo.new w (cfV y p d) 66).below A1).below A2
 have N := (Bo.new (w.alloc (.cells (cfV y p d) 66)) (ndV x aa ac pa pc ha hc) 57).below A2
 have R := Bo.new (((w.alloc (.cells (cfV y p d) 66))).alloc (.cells (ndV x aa ac pa pc ha hc) 57)) #[.int .i64 0, .int .i64 0, .int .i64 0, .int .i64 0, .bool false, .int .i64 0, .int .i64 0, .int .i64 0, .int .i64 0, .int .i64 0, .slice none 0 0, .slice none 0 0, .bool false, .int .i64 0, .slice none 0 0, .int .i64 0] 57
 have B := A0
 replace B := B.trans (A1.mono B.size)
 replace B := B.trans (A2.mono B.size)
 simp only [World.size_alloc] at N R
 clear A0 A1 A2
 go_enter Tryz.func19, Tryz.ntmps19
 go_upto_region 1 with fail
 generalize ((((w.alloc (.cells (cfV y p d) 66))).alloc (.cells (ndV x aa ac pa pc ha hc) 57))).alloc (.cells #[.int .i64 0, .int .i64 0, .int .i64 0, .int .i64 0, .bool false, .int .i64 0, .int .i64 0, .int .i64 0, .int .i64 0, .int .i64 0, .slice none 0 0, .slice none 0 0, .bool false, .int .i64 0, .slice none 0 0, .int .i64 0] 57) = v0 at *
 have hL0 := C.load (P := Tryz.prog) (show ((cfV y p d) : Array Value).size = 11 from rfl)
 have hL1 := N.load (P := Tryz.prog) (show ((ndV x aa ac pa pc ha hc) : Array Value).size = 16 from rfl)
 go_wp2_with (first | rw [hL0] | rw [hL1])
 refine (CST v0 B).mono ?_
 rintro e v1 ⟨rfl, hb⟩
 clear hL0 hL1
 replace B := B.trans (hb.mono B.size)
 replace C := C.below hb
 replace N := N.below hb
 replace R := R.below hb
 clear hb
 rcases iF y x ct with hst0 | ⟨hst0, hok⟩ | ⟨hst0, hok⟩
 ·rw [hst0]
  have hL0 := N.load (P := Tryz.prog) (show ((ndV x aa ac pa pc ha hc) : Array Value).size = 16 from rfl)
  go_wp2_with (rw [hL0])
  refine (CBB v1 B).mono ?_
  rintro e v2 ⟨U, rfl, OU, hb⟩
  clear hL0
  have q1C : w.heap.size < v1.heap.size := C.1
  have q1N : w.heap.size + 1 < v1.heap.size := N.1
  have q1R : w.heap.size + 2 < v1.heap.size := R.1
  have q1 : w.heap.size ≤ v1.heap.size := B.size
  have zv2 : v1.heap.size ≤ v2.heap.size := hb.size
  replace B := B.trans (hb.mono B.size)
  replace C := C.below hb
  replace N := N.below hb
  replace R := R.below hb
  clear hb
  have hF : FX = (zX 0 0 0 0 0 0, 1) := by rw [HFX]; simp only [hst0, Int.reduceBEq]
  clear HFX
  have hU := OU.size
  have hUl : 0 + U.toList.length ≤ 16 := by simp [hU]
  have hst := Bo.store (P := Tryz.prog) (b := 0) (U.toList) 0 0 R rfl hUl OU.one
  have hb : Btw (w.heap.size + 2) (w.heap.size + 2 + 1) v2 _ := ay (U.toList) v2 0 (w.heap.size + 2)
  have B1 := an (k := w.heap.size + 2) (U.toList) w v2 0 B (by omega)
  have N1 : Bo (aF v2 (w.heap.size + 2) 0 (U.toList)) (w.heap.size + 2) (U) := R.putW (U := U) hU
  go_wp2_with (rw [hst])
  clear hst  R B
  replace C := C.btw hb (by omega)
  replace N := N.btw hb (by omega)
  replace OU := OU.btw hb (by omega)
  have zv3 := hb.2.2.2.1
  clear hb
  generalize aF v2 (w.heap.size + 2) 0 (U.toList) = v3 at *
  have B := B1
  have R := N1
  clear B1 N1
  have hL0 := R.load (P := Tryz.prog) hU
  exact bodyPost_ret (v := .tuple #[.agg U, .int .i64 1]) (by simp [results, Tryz.results19, go_sem]; rw [hL0]; rfl) rfl ⟨_, by rw [hF], by rw [hF]; exact OU.low (by omega), B⟩
 ·rw [hst0]
  have hsh := dC hok
  have hL0 := N.load (P := Tryz.prog) (show ((ndV x aa ac pa pc ha hc) : Array Value).size = 16 from rfl)
  go_wp2_with (rw [hL0])
  refine (CBA hsh v1 B).mono ?_
  rintro e v2 ⟨U, rfl, OU, hb⟩
  clear hL0
  have q1C : w.heap.size < v1.heap.size := C.1
  have q1N : w.heap.size + 1 < v1.heap.size := N.1
  have q1R : w.heap.size + 2 < v1.heap.size := R.1
  have q1 : w.heap.size ≤ v1.heap.size := B.size
  have zv2 : v1.heap.size ≤ v2.heap.size := hb.size
  replace B := B.trans (hb.mono B.size)
  replace C := C.below hb
  replace N := N.below hb
  replace R := R.below hb
  clear hb
  have hF : FX = (x, 2) := by rw [HFX]; simp only [hst0, Int.reduceBEq]
  clear HFX
  have hU := OU.size
  have hUl : 0 + U.toList.length ≤ 16 := by simp [hU]
  have hst := Bo.store (P := Tryz.prog) (b := 0) (U.toList) 0 0 R rfl hUl OU.one
  have hb : Btw (w.heap.size + 2) (w.heap.size + 2 + 1) v2 _ := ay (U.toList) v2 0 (w.heap.size + 2)
  have B1 := an (k := w.heap.size + 2) (U.toList) w v2 0 B (by omega)
  have N1 : Bo (aF v2 (w.heap.size + 2) 0 (U.toList)) (w.heap.size + 2) (U) := R.putW (U := U) hU
  go_wp2_with (rw [hst])
  clear hst  R B
  replace C := C.btw hb (by omega)
  replace N := N.btw hb (by omega)
  replace OU := OU.btw hb (by omega)
  have zv3 := hb.2.2.2.1
  clear hb
  generalize aF v2 (w.heap.size + 2) 0 (U.toList) = v3 at *
  have B := B1
  have R := N1
  clear B1 N1
  have hL0 := R.load (P := Tryz.prog) hU
  exact bodyPost_ret (v := .tuple #[.agg U, .int .i64 2]) (by simp [results, Tryz.results19, go_sem]; rw [hL0]; rfl) rfl ⟨_, by rw [hF], by rw [hF]; exact OU.low (by omega), B⟩
 rw [hst0]
 have hsh := dC hok
 clear hok
 have hL0 := C.load (P := Tryz.prog) (show ((cfV y p d) : Array Value).size = 11 from rfl)
 have hL1 := N.load (P := Tryz.prog) (show ((ndV x aa ac pa pc ha hc) : Array Value).size = 16 from rfl)
 go_wp2_with (first | rw [hL0] | rw [hL1])
 refine (CNO v1 B).mono ?_
 rintro e v2 ⟨rfl, hb⟩
 clear hL0 hL1
 replace B := B.trans (hb.mono B.size)
 replace C := C.below hb
 replace N := N.below hb
 replace R := R.below hb
 clear hb
 have hst := bg (P := Tryz.prog) v2 (#[.int .i64 0, .int .i64 0]) (#[.int .i64 (aq y x ct), .int .i64 (ap y x ct)]) 47 rfl (List.forall_mem_cons.2 ⟨rfl, (List.forall_mem_cons.2 ⟨rfl, fun _ h => nomatch h⟩)⟩)
 have gQC : w.heap.size < v2.heap.size := C.1
 have gQN : w.heap.size + 1 < v2.heap.size := N.1
 have gQR : w.heap.size + 2 < v2.heap.size := R.1
 have hb := Below.nw v2 (.cells #[.int .i64 (aq y x ct), .int .i64 (ap y x ct)] 47)
 have Q := Bo.new v2 #[.int .i64 (aq y x ct), .int .i64 (ap y x ct)] 47
 go_upto_region 5 with (rw [hst])
 clear hst
 replace B := B.trans (hb.mono B.size)
 replace C := C.below hb
 replace N := N.below hb
 replace R := R.below hb
 clear hb
 generalize v2.alloc (.cells #[.int .i64 (aq y x ct), .int .i64 (ap y x ct)] 47) = v3 at *
 generalize v2.heap.size = kQ at *
 cases h10 : dg y x ct == 10
 rotate_left
 ·have hL0 := N.load (P := Tryz.prog) (show ((ndV x aa ac pa pc ha hc) : Array Value).size = 16 from rfl)
  go_wp2_with (rw [hL0])
  refine (CCP hsh v3 B).mono ?_
  rintro e v4 ⟨U, rfl, OU, hb⟩
  clear hL0
  have q1C : w.heap.size < v3.heap.size := C.1
  have q1N : w.heap.size + 1 < v3.heap.size := N.1
  have q1R : w.heap.size + 2 < v3.heap.size := R.1
  have q1Q : kQ < v3.heap.size := Q.1
  have q1 : w.heap.size ≤ v3.heap.size := B.size
  have zv4 : v3.heap.size ≤ v4.heap.size := hb.size
  replace B := B.trans (hb.mono B.size)
  replace C := C.below hb
  replace N := N.below hb
  replace R := R.below hb
  replace Q := Q.below hb
  clear hb
  have hF : FX = (x, 10) := by rw [HFX]; simp only [hst0, Int.reduceBEq, h10]
  clear HFX
  have hU := OU.size
  have hUl : 0 + U.toList.length ≤ 16 := by simp [hU]
  have hst := Bo.store (P := Tryz.prog) (b := 0) (U.toList) 0 0 R rfl hUl OU.one
  have hb : Btw (w.heap.size + 2) (w.heap.size + 2 + 1) v4 _ := ay (U.toList) v4 0 (w.heap.size + 2)
  have B1 := an (k := w.heap.size + 2) (U.toList) w v4 0 B (by omega)
  have N1 : Bo (aF v4 (w.heap.size + 2) 0 (U.toList)) (w.heap.size + 2) (U) := R.putW (U := U) hU
  go_wp2_with (rw [hst])
  clear hst  R B
  replace C := C.btw hb (by omega)
  replace N := N.btw hb (by omega)
  replace Q := Q.btw hb (by omega)
  replace OU := OU.btw hb (by omega)
  have zv5 := hb.2.2.2.1
  clear hb
  generalize aF v4 (w.heap.size + 2) 0 (U.toList) = v5 at *
  have B := B1
  have R := N1
  clear B1 N1
  have hL0 := R.load (P := Tryz.prog) hU
  exact bodyPost_ret (v := .tuple #[.agg U, .int .i64 10]) (by simp [results, Tryz.results19, go_sem]; rw [hL0]; rfl) rfl ⟨_, by rw [hF], by rw [hF]; exact OU.low (by omega), B⟩
 have hL0 : (loadCells ⟨w.heap.size, 0, none⟩ 2).run Tryz.prog v3 = .ok #[.int .i64 y.dn, .int .i64 y.dd] v3 := C.loadAt (P := Tryz.prog) 0 2 (show 0 + 2 ≤ 11 by decide)
 have hL1 : v3.cell? ⟨w.heap.size, 5, none⟩ = some (.int .i64 y.ag) := C.cell rfl
 have hL2 : v3.cell? ⟨w.heap.size + 1, 11, none⟩ = some (.slice pa x.np pc) := N.cell rfl
 go_wp2_with (rw [hL0])
 refine (CPC v3 B).mono ?_
 rintro e v4 ⟨b0, b1, rfl, OB, OI, hb⟩
 clear hL0 hL1 hL2
 have q1C : w.heap.size < v3.heap.size := C.1
 have q1N : w.heap.size + 1 < v3.heap.size := N.1
 have q1R : w.heap.size + 2 < v3.heap.size := R.1
 have q1Q : kQ < v3.heap.size := Q.1
 have q1 : w.heap.size ≤ v3.heap.size := B.size
 have zv4 : v3.heap.size ≤ v4.heap.size := hb.size
 obtain ⟨fa, fcp, rfl, RB⟩ := fx OB
 clear OB OI
 replace B := B.trans (hb.mono B.size)
 replace C := C.below hb
 replace N := N.below hb
 replace R := R.below hb
 replace Q := Q.below hb
 clear hb
 have hL0 := Q.load (P := Tryz.prog) (show (#[.int .i64 (aq y x ct), .int .i64 (ap y x ct)] : Array Value).size = 2 from rfl)
 have hL1 : v4.cell? ⟨w.heap.size + 1, 4, none⟩ = some (.bool x.kn) := N.cell rfl
 have hL2 : v4.cell? ⟨w.heap.size, 2, none⟩ = some (.int .i64 y.li) := C.cell rfl
 have hL3 : v4.cell? ⟨w.heap.size, 3, none⟩ = some (.int .i64 y.le) := C.cell rfl
 go_wp2_with (rw [hL0])
 refine (CFU v4 fa fcp (m9 RB.rw.src)).mono ?_
 rintro e v5 ⟨rfl, hb⟩
 clear hL0 hL1 hL2 hL3
 have zv5 : v4.heap.size ≤ v5.heap.size := hb.size
 replace B := B.trans (hb.mono B.size)
 replace C := C.below hb
 replace N := N.below hb
 replace R := R.below hb
 replace Q := Q.below hb
 replace RB := RB.below hb
 clear hb
 have hst := bg (P := Tryz.prog) v5 (#[.int .i64 0, .int .i64 0]) (#[.int .i64 (fuL (aq y x ct) (ap y x ct) x.kn (gV LL) LL.length y.li y.le), .int .i64 (fuH (aq y x ct) (ap y x ct) x.kn (gV LL) LL.length y.li y.le)]) 47 rfl (List.forall_mem_cons.2 ⟨rfl, (List.forall_mem_cons.2 ⟨rfl, fun _ h => nomatch h⟩)⟩)
 have gPC : w.heap.size < v5.heap.size := C.1
 have gPN : w.heap.size + 1 < v5.heap.size := N.1
 have gPR : w.heap.size + 2 < v5.heap.size := R.1
 have gPQ : kQ < v5.heap.size := Q.1
 have gPRB : v4.heap.size ≤ v5.heap.size := by omega
 have hb := Below.nw v5 (.cells #[.int .i64 (fuL (aq y x ct) (ap y x ct) x.kn (gV LL) LL.length y.li y.le), .int .i64 (fuH (aq y x ct) (ap y x ct) x.kn (gV LL) LL.length y.li y.le)] 47)
 have P := Bo.new v5 #[.int .i64 (fuL (aq y x ct) (ap y x ct) x.kn (gV LL) LL.length y.li y.le), .int .i64 (fuH (aq y x ct) (ap y x ct) x.kn (gV LL) LL.length y.li y.le)] 47
 go_upto_region 9 with (rw [hst])
 clear hst
 replace B := B.trans (hb.mono B.size)
 replace C := C.below hb
 replace N := N.below hb
 replace R := R.below hb
 replace Q := Q.below hb
 replace RB := RB.below hb
 clear hb
 generalize v5.alloc (.cells #[.int .i64 (fuL (aq y x ct) (ap y x ct) x.kn (gV LL) LL.length y.li y.le), .int .i64 (fuH (aq y x ct) (ap y x ct) x.kn (gV LL) LL.length y.li y.le)] 47) = v6 at *
 generalize v5.heap.size = kP at *
 have zv6 : kP ≤ v6.heap.size := Nat.le_of_lt P.1
 clear RB
 cases h2 : fuC (aq y x ct) (ap y x ct) x.kn (gV LL) LL.length y.li y.le == 2
 rotate_left
 ·have hL0 := N.load (P := Tryz.prog) (show ((ndV x aa ac pa pc ha hc) : Array Value).size = 16 from rfl)
  go_wp2_with (rw [hL0])
  refine (CCP hsh v6 B).mono ?_
  rintro e v7 ⟨U, rfl, OU, hb⟩
  clear hL0
  have q2C : w.heap.size < v6.heap.size := C.1
  have q2N : w.heap.size + 1 < v6.heap.size := N.1
  have q2R : w.heap.size + 2 < v6.heap.size := R.1
  have q2Q : kQ < v6.heap.size := Q.1
  have q2P : kP < v6.heap.size := P.1
  have q2 : w.heap.size ≤ v6.heap.size := B.size
  have zv7 : v6.heap.size ≤ v7.heap.size := hb.size
  replace B := B.trans (hb.mono B.size)
  replace C := C.below hb
  replace N := N.below hb
  replace R := R.below hb
  replace Q := Q.below hb
  replace P := P.below hb
  clear hb
  have hF : FX = (x, 11) := by rw [HFX]; simp only [hst0, Int.reduceBEq, h10, h2]
  clear HFX
  have hU := OU.size
  have hUl : 0 + U.toList.length ≤ 16 := by simp [hU]
  have hst := Bo.store (P := Tryz.prog) (b := 0) (U.toList) 0 0 R rfl hUl OU.one
  have hb : Btw (w.heap.size + 2) (w.heap.size + 2 + 1) v7 _ := ay (U.toList) v7 0 (w.heap.size + 2)
  have B1 := an (k := w.heap.size + 2) (U.toList) w v7 0 B (by omega)
  have N1 : Bo (aF v7 (w.heap.size + 2) 0 (U.toList)) (w.heap.size + 2) (U) := R.putW (U := U) hU
  go_wp2_with (rw [hst])
  clear hst  R B
  replace C := C.btw hb (by omega)
  replace N := N.btw hb (by omega)
  replace Q := Q.btw hb (by omega)
  replace P := P.btw hb (by omega)
  replace OU := OU.btw hb (by omega)
  have zv8 := hb.2.2.2.1
  clear hb
  generalize aF v7 (w.heap.size + 2) 0 (U.toList) = v8 at *
  have B := B1
  have R := N1
  clear B1 N1
  have hL0 := R.load (P := Tryz.prog) hU
  exact bodyPost_ret (v := .tuple #[.agg U, .int .i64 11]) (by simp [results, Tryz.results19, go_sem]; rw [hL0]; rfl) rfl ⟨_, by rw [hF], by rw [hF]; exact OU.low (by omega), B⟩
 cases h3 : fuC (aq y x ct) (ap y x ct) x.kn (gV LL) LL.length y.li y.le == 3
 rotate_left
 ·have hL0 := N.load (P := Tryz.prog) (show ((ndV x aa ac pa pc ha hc) : Array Value).size = 16 from rfl)
  go_wp2_with (rw [hL0])
  refine (CCP hsh v6 B).mono ?_
  rintro e v7 ⟨U, rfl, OU, hb⟩
  clear hL0
  have q2C : w.heap.size < v6.heap.size := C.1
  have q2N : w.heap.size + 1 < v6.heap.size := N.1
  have q2R : w.heap.size + 2 < v6.heap.size := R.1
  have q2Q : kQ < v6.heap.size := Q.1
  have q2P : kP < v6.heap.size := P.1
  have q2 : w.heap.size ≤ v6.heap.size := B.size
  have zv7 : v6.heap.size ≤ v7.heap.size := hb.size
  replace B := B.trans (hb.mono B.size)
  replace C := C.below hb
  replace N := N.below hb
  replace R := R.below hb
  replace Q := Q.below hb
  replace P := P.below hb
  clear hb
  have hF : FX = (x, 12) := by rw [HFX]; simp only [hst0, Int.reduceBEq, h10, h2, h3]
  clear HFX
  have hU := OU.size
  have hUl : 0 + U.toList.length ≤ 16 := by simp [hU]
  have hst := Bo.store (P := Tryz.prog) (b := 0) (U.toList) 0 0 R rfl hUl OU.one
  have hb : Btw (w.heap.size + 2) (w.heap.size + 2 + 1) v7 _ := ay (U.toList) v7 0 (w.heap.size + 2)
  have B1 := an (k := w.heap.size + 2) (U.toList) w v7 0 B (by omega)
  have N1 : Bo (aF v7 (w.heap.size + 2) 0 (U.toList)) (w.heap.size + 2) (U) := R.putW (U := U) hU
  go_wp2_with (rw [hst])
  clear hst  R B
  replace C := C.btw hb (by omega)
  replace N := N.btw hb (by omega)
  replace Q := Q.btw hb (by omega)
  replace P := P.btw hb (by omega)
  replace OU := OU.btw hb (by omega)
  have zv8 := hb.2.2.2.1
  clear hb
  generalize aF v7 (w.heap.size + 2) 0 (U.toList) = v8 at *
  have B := B1
  have R := N1
  clear B1 N1
  have hL0 := R.load (P := Tryz.prog) hU
  exact bodyPost_ret (v := .tuple #[.agg U, .int .i64 12]) (by simp [results, Tryz.results19, go_sem]; rw [hL0]; rfl) rfl ⟨_, by rw [hF], by rw [hF]; exact OU.low (by omega), B⟩
 cases h4 : fuC (aq y x ct) (ap y x ct) x.kn (gV LL) LL.length y.li y.le == 4
 rotate_left
 ·have hL0 := N.load (P := Tryz.prog) (show ((ndV x aa ac pa pc ha hc) : Array Value).size = 16 from rfl)
  go_wp2_with (rw [hL0])
  refine (CCP hsh v6 B).mono ?_
  rintro e v7 ⟨U, rfl, OU, hb⟩
  clear hL0
  have q2C : w.heap.size < v6.heap.size := C.1
  have q2N : w.heap.size + 1 < v6.heap.size := N.1
  have q2R : w.heap.size + 2 < v6.heap.size := R.1
  have q2Q : kQ < v6.heap.size := Q.1
  have q2P : kP < v6.heap.size := P.1
  have q2 : w.heap.size ≤ v6.heap.size := B.size
  have zv7 : v6.heap.size ≤ v7.heap.size := hb.size
  replace B := B.trans (hb.mono B.size)
  replace C := C.below hb
  replace N := N.below hb
  replace R := R.below hb
  replace Q := Q.below hb
  replace P := P.below hb
  clear hb
  have hF : FX = (x, 3) := by rw [HFX]; simp only [hst0, Int.reduceBEq, h10, h2, h3, h4]
  clear HFX
  have hU := OU.size
  have hUl : 0 + U.toList.length ≤ 16 := by simp [hU]
  have hst := Bo.store (P := Tryz.prog) (b := 0) (U.toList) 0 0 R rfl hUl OU.one
  have hb : Btw (w.heap.size + 2) (w.heap.size + 2 + 1) v7 _ := ay (U.toList) v7 0 (w.heap.size + 2)
  have B1 := an (k := w.heap.size + 2) (U.toList) w v7 0 B (by omega)
  have N1 : Bo (aF v7 (w.heap.size + 2) 0 (U.toList)) (w.heap.size + 2) (U) := R.putW (U := U) hU
  go_wp2_with (rw [hst])
  clear hst  R B
  replace C := C.btw hb (by omega)
  replace N := N.btw hb (by omega)
  replace Q := Q.btw hb (by omega)
  replace P := P.btw hb (by omega)
  replace OU := OU.btw hb (by omega)
  have zv8 := hb.2.2.2.1
  clear hb
  generalize aF v7 (w.heap.size + 2) 0 (U.toList) = v8 at *
  have B := B1
  have R := N1
  clear B1 N1
  have hL0 := R.load (P := Tryz.prog) hU
  exact bodyPost_ret (v := .tuple #[.agg U, .int .i64 3]) (by simp [results, Tryz.results19, go_sem]; rw [hL0]; rfl) rfl ⟨_, by rw [hF], by rw [hF]; exact OU.low (by omega), B⟩
 have hL0 := N.load (P := Tryz.prog) (show ((ndV x aa ac pa pc ha hc) : Array Value).size = 16 from rfl)
 go_wp2_with (rw [hL0])
 refine (CCP hsh v6 B).mono ?_
 rintro e v7 ⟨U, rfl, OU, hb⟩
 clear hL0
 have q2C : w.heap.size < v6.heap.size := C.1
 have q2N : w.heap.size + 1 < v6.heap.size := N.1
 have q2R : w.heap.size + 2 < v6.heap.size := R.1
 have q2Q : kQ < v6.heap.size := Q.1
 have q2P : kP < v6.heap.size := P.1
 have q2 : w.heap.size ≤ v6.heap.size := B.size
 have zv7 : v6.heap.size ≤ v7.heap.size := hb.size
 replace B := B.trans (hb.mono B.size)
 replace C := C.below hb
 replace N := N.below hb
 replace R := R.below hb
 replace Q := Q.below hb
 replace P := P.below hb
 clear hb
 have hU := OU.size
 have hst := bg (P := Tryz.prog) v7 (#[.int .i64 0, .int .i64 0, .int .i64 0, .int .i64 0, .bool false, .int .i64 0, .int .i64 0, .int .i64 0, .int .i64 0, .int .i64 0, .slice none 0 0, .slice none 0 0, .bool false, .int .i64 0, .slice none 0 0, .int .i64 0]) U 57 (by rw [hU]; rfl) OU.one
 have gOC : w.heap.size < v7.heap.size := C.1
 have gON : w.heap.size + 1 < v7.heap.size := N.1
 have gOR : w.heap.size + 2 < v7.heap.size := R.1
 have gOQ : kQ < v7.heap.size := Q.1
 have gOP : kP < v7.heap.size := P.1
 have gOOU : v7.heap.size ≤ v7.heap.size := by omega
 have hb := Below.nw v7 (.cells U 57)
 have O := Bo.new v7 U 57
 go_upto_region 17 with (rw [hst])
 clear hst
 replace B := B.trans (hb.mono B.size)
 replace C := C.below hb
 replace N := N.below hb
 replace R := R.below hb
 replace Q := Q.below hb
 replace P := P.below hb
 replace OU := OU.below hb
 clear hb
 generalize v7.alloc (.cells U 57) = v8 at *
 generalize v7.heap.size = kO at *
 have zv8 : kO ≤ v8.heap.size := Nat.le_of_lt O.1
 obtain ⟨a1, c1, a2, c2, a3, c3, rfl, hbn, P1, P2, P3⟩ := OU
 clear hU P2
 have hL0 := P.load (P := Tryz.prog) (show (#[.int .i64 (fuL (aq y x ct) (ap y x ct) x.kn (gV LL) LL.length y.li y.le), .int .i64 (fuH (aq y x ct) (ap y x ct) x.kn (gV LL) LL.length y.li y.le)] : Array Value).size = 2 from rfl)
 have hst := Bo.store (P := Tryz.prog) (b := 4) ([.bool true, .int .i64 (fuL (aq y x ct) (ap y x ct) x.kn (gV LL) LL.length y.li y.le), .int .i64 (fuH (aq y x ct) (ap y x ct) x.kn (gV LL) LL.length y.li y.le), .int .i64 ct]) 4 0 O rfl (show 4 + 4 ≤ 16 by decide) (List.forall_mem_cons.2 ⟨rfl, (List.forall_mem_cons.2 ⟨rfl, (List.forall_mem_cons.2 ⟨rfl, (List.forall_mem_cons.2 ⟨rfl, fun _ h => nomatch h⟩)⟩)⟩)⟩)
 have hb : Btw (kO) (kO + 1) v8 _ := ay ([.bool true, .int .i64 (fuL (aq y x ct) (ap y x ct) x.kn (gV LL) LL.length y.li y.le), .int .i64 (fuH (aq y x ct) (ap y x ct) x.kn (gV LL) LL.length y.li y.le), .int .i64 ct]) v8 4 (kO)
 have B1 := an (k := kO) ([.bool true, .int .i64 (fuL (aq y x ct) (ap y x ct) x.kn (gV LL) LL.length y.li y.le), .int .i64 (fuH (aq y x ct) (ap y x ct) x.kn (gV LL) LL.length y.li y.le), .int .i64 ct]) w v8 4 B (by omega)
 have N1 : Bo (aF v8 (kO) 4 ([.bool true, .int .i64 (fuL (aq y x ct) (ap y x ct) x.kn (gV LL) LL.length y.li y.le), .int .i64 (fuH (aq y x ct) (ap y x ct) x.kn (gV LL) LL.length y.li y.le), .int .i64 ct])) (kO) ((ndV { x with kn := true, lo := fuL (aq y x ct) (ap y x ct) x.kn (gV LL) LL.length y.li y.le, hi := fuH (aq y x ct) (ap y x ct) x.kn (gV LL) LL.length y.li y.le, la := ct } a1 c1 a2 c2 a3 c3)) := Bo.put ([.bool true, .int .i64 (fuL (aq y x ct) (ap y x ct) x.kn (gV LL) LL.length y.li y.le), .int .i64 (fuH (aq y x ct) (ap y x ct) x.kn (gV LL) LL.length y.li y.le), .int .i64 ct]) 4 O
 go_upto_region 18 with (first | rw [hL0] | rw [hst])
 clear hst hL0 O B
 replace C := C.btw hb (by omega)
 replace N := N.btw hb (by omega)
 replace R := R.btw hb (by omega)
 replace Q := Q.btw hb (by omega)
 replace P := P.btw hb (by omega)
 replace P1 := P1.btw hb (by omega)
 replace P3 := P3.btw hb (by omega)
 have zv9 := hb.2.2.2.1
 clear hb
 generalize aF v8 (kO) 4 ([.bool true, .int .i64 (fuL (aq y x ct) (ap y x ct) x.kn (gV LL) LL.length y.li y.le), .int .i64 (fuH (aq y x ct) (ap y x ct) x.kn (gV LL) LL.length y.li y.le), .int .i64 ct]) = v9 at *
 have B := B1
 have O := N1
 clear B1 N1
 have hL0 := N.load (P := Tryz.prog) (show ((ndV x aa ac pa pc ha hc) : Array Value).size = 16 from rfl)
 go_wp2_with (rw [hL0])
 refine (CLV v9 B).mono ?_
 rintro e v10 ⟨rfl, hb⟩
 clear hL0
 have zv10 : v9.heap.size ≤ v10.heap.size := hb.size
 replace B := B.trans (hb.mono B.size)
 replace C := C.below hb
 replace N := N.below hb
 replace R := R.below hb
 replace Q := Q.below hb
 replace P := P.below hb
 replace O := O.below hb
 replace P1 := P1.below hb
 replace P3 := P3.below hb
 clear hb
 have hst := Bo.store (P := Tryz.prog) (b := 1) ([.int .i64 (stM x.mo x.ep x.si 3 ct), .int .i64 (stE x.mo x.ep x.si 3 ct), .int .i64 (stS x.mo x.ep x.si 3 ct)]) 1 0 O rfl (show 1 + 3 ≤ 16 by decide) (List.forall_mem_cons.2 ⟨rfl, (List.forall_mem_cons.2 ⟨rfl, (List.forall_mem_cons.2 ⟨rfl, fun _ h => nomatch h⟩)⟩)⟩)
 have hb : Btw (kO) (kO + 1) v10 _ := ay ([.int .i64 (stM x.mo x.ep x.si 3 ct), .int .i64 (stE x.mo x.ep x.si 3 ct), .int .i64 (stS x.mo x.ep x.si 3 ct)]) v10 1 (kO)
 have B1 := an (k := kO) ([.int .i64 (stM x.mo x.ep x.si 3 ct), .int .i64 (stE x.mo x.ep x.si 3 ct), .int .i64 (stS x.mo x.ep x.si 3 ct)]) w v10 1 B (by omega)
 have N1 : Bo (aF v10 (kO) 1 ([.int .i64 (stM x.mo x.ep x.si 3 ct), .int .i64 (stE x.mo x.ep x.si 3 ct), .int .i64 (stS x.mo x.ep x.si 3 ct)])) (kO) ((ndV { x with kn := true, lo := fuL (aq y x ct) (ap y x ct) x.kn (gV LL) LL.length y.li y.le, hi := fuH (aq y x ct) (ap y x ct) x.kn (gV LL) LL.length y.li y.le, la := ct, mo := stM x.mo x.ep x.si 3 ct, ep := stE x.mo x.ep x.si 3 ct, si := stS x.mo x.ep x.si 3 ct } a1 c1 a2 c2 a3 c3)) := Bo.put ([.int .i64 (stM x.mo x.ep x.si 3 ct), .int .i64 (stE x.mo x.ep x.si 3 ct), .int .i64 (stS x.mo x.ep x.si 3 ct)]) 1 O
 go_upto_region 19 with (rw [hst])
 clear hst  O B
 replace C := C.btw hb (by omega)
 replace N := N.btw hb (by omega)
 replace R := R.btw hb (by omega)
 replace Q := Q.btw hb (by omega)
 replace P := P.btw hb (by omega)
 replace P1 := P1.btw hb (by omega)
 replace P3 := P3.btw hb (by omega)
 have zv11 := hb.2.2.2.1
 clear hb
 generalize aF v10 (kO) 1 ([.int .i64 (stM x.mo x.ep x.si 3 ct), .int .i64 (stE x.mo x.ep x.si 3 ct), .int .i64 (stS x.mo x.ep x.si 3 ct)]) = v11 at *
 have B := B1
 have O := N1
 clear B1 N1
 have hL0 : (loadCells ⟨w.heap.size, 0, none⟩ 2).run Tryz.prog v11 = .ok #[.int .i64 y.dn, .int .i64 y.dd] v11 := C.loadAt (P := Tryz.prog) 0 2 (show 0 + 2 ≤ 11 by decide)
 have hL1 : v11.cell? ⟨w.heap.size, 5, none⟩ = some (.int .i64 y.ag) := C.cell rfl
 have hL2 : v11.cell? ⟨w.heap.size + 1, 11, none⟩ = some (.slice pa x.np pc) := N.cell rfl
 have hL3 := P.load (P := Tryz.prog) (show (#[.int .i64 (fuL (aq y x ct) (ap y x ct) x.kn (gV LL) LL.length y.li y.le), .int .i64 (fuH (aq y x ct) (ap y x ct) x.kn (gV LL) LL.length y.li y.le)] : Array Value).size = 2 from rfl)
 go_wp2_with (first | rw [hL0] | rw [hL3])
 refine (CPM v11 B).mono ?_
 rintro e v12 ⟨pv, rfl, OP, hb⟩
 clear hL0 hL1 hL2 hL3
 have q3C : w.heap.size < v11.heap.size := C.1
 have q3N : w.heap.size + 1 < v11.heap.size := N.1
 have q3R : w.heap.size + 2 < v11.heap.size := R.1
 have q3Q : kQ < v11.heap.size := Q.1
 have q3P : kP < v11.heap.size := P.1
 have q3O : kO < v11.heap.size := O.1
 have q3 : w.heap.size ≤ v11.heap.size := B.size
 have zv12 : v11.heap.size ≤ v12.heap.size := hb.size
 obtain ⟨qa, qc, rfl, RP⟩ := fx OP
 clear OP
 replace B := B.trans (hb.mono B.size)
 replace C := C.below hb
 replace N := N.below hb
 replace R := R.below hb
 replace Q := Q.below hb
 replace P := P.below hb
 replace O := O.below hb
 replace P1 := P1.below hb
 replace P3 := P3.below hb
 clear hb
 have hst := Bo.store (P := Tryz.prog) (b := 11) [.slice qa (mrL x.QM x.np y.dn y.dd ct y.ag (fuL (aq y x ct) (ap y x ct) x.kn (gV LL) LL.length y.li y.le) (fuH (aq y x ct) (ap y x ct) x.kn (gV LL) LL.length y.li y.le)).length qc] 11 0 O rfl (show 11 + 1 ≤ 16 by decide) (List.forall_mem_cons.2 ⟨rfl, fun _ h => nomatch h⟩)
 have hb : Btw (kO) (kO + 1) v12 (aF v12 (kO) 11 [.slice qa (mrL x.QM x.np y.dn y.dd ct y.ag (fuL (aq y x ct) (ap y x ct) x.kn (gV LL) LL.length y.li y.le) (fuH (aq y x ct) (ap y x ct) x.kn (gV LL) LL.length y.li y.le)).length qc]) := ay [.slice qa (mrL x.QM x.np y.dn y.dd ct y.ag (fuL (aq y x ct) (ap y x ct) x.kn (gV LL) LL.length y.li y.le) (fuH (aq y x ct) (ap y x ct) x.kn (gV LL) LL.length y.li y.le)).length qc] v12 11 (kO)
 have B1 := an (k := kO) [.slice qa (mrL x.QM x.np y.dn y.dd ct y.ag (fuL (aq y x ct) (ap y x ct) x.kn (gV LL) LL.length y.li y.le) (fuH (aq y x ct) (ap y x ct) x.kn (gV LL) LL.length y.li y.le)).length qc] w v12 11 B (by omega)
 have N1 : Bo (aF v12 (kO) 11 [.slice qa (mrL x.QM x.np y.dn y.dd ct y.ag (fuL (aq y x ct) (ap y x ct) x.kn (gV LL) LL.length y.li y.le) (fuH (aq y x ct) (ap y x ct) x.kn (gV LL) LL.length y.li y.le)).length qc]) (kO) ((ndV { x with kn := true, lo := fuL (aq y x ct) (ap y x ct) x.kn (gV LL) LL.length y.li y.le, hi := fuH (aq y x ct) (ap y x ct) x.kn (gV LL) LL.length y.li y.le, la := ct, mo := stM x.mo x.ep x.si 3 ct, ep := stE x.mo x.ep x.si 3 ct, si := stS x.mo x.ep x.si 3 ct, QM := gP (mrL x.QM x.np y.dn y.dd ct y.ag (fuL (aq y x ct) (ap y x ct) x.kn (gV LL) LL.length y.li y.le) (fuH (aq y x ct) (ap y x ct) x.kn (gV LL) LL.length y.li y.le)), np := (mrL x.QM x.np y.dn y.dd ct y.ag (fuL (aq y x ct) (ap y x ct) x.kn (gV LL) LL.length y.li y.le) (fuH (aq y x ct) (ap y x ct) x.kn (gV LL) LL.length y.li y.le)).length } a1 c1 qa qc a3 c3)) := Bo.put [.slice qa (mrL x.QM x.np y.dn y.dd ct y.ag (fuL (aq y x ct) (ap y x ct) x.kn (gV LL) LL.length y.li y.le) (fuH (aq y x ct) (ap y x ct) x.kn (gV LL) LL.length y.li y.le)).length qc] 11 O
 go_upto_region 20 with (rw [hst])
 clear hst  O B
 replace C := C.btw hb (by omega)
 replace N := N.btw hb (by omega)
 replace R := R.btw hb (by omega)
 replace Q := Q.btw hb (by omega)
 replace P := P.btw hb (by omega)
 replace P1 := P1.btw hb (by omega)
 replace P3 := P3.btw hb (by omega)
 replace RP := RP.btw hb (by omega)
 have zv13 := hb.2.2.2.1
 clear hb
 generalize aF v12 (kO) 11 [.slice qa (mrL x.QM x.np y.dn y.dd ct y.ag (fuL (aq y x ct) (ap y x ct) x.kn (gV LL) LL.length y.li y.le) (fuH (aq y x ct) (ap y x ct) x.kn (gV LL) LL.length y.li y.le)).length qc] = v13 at *
 have B := B1
 have O := N1
 clear B1 N1
 have hU : (ndV { x with kn := true, lo := fuL (aq y x ct) (ap y x ct) x.kn (gV LL) LL.length y.li y.le, hi := fuH (aq y x ct) (ap y x ct) x.kn (gV LL) LL.length y.li y.le, la := ct, mo := stM x.mo x.ep x.si 3 ct, ep := stE x.mo x.ep x.si 3 ct, si := stS x.mo x.ep x.si 3 ct, QM := gP (mrL x.QM x.np y.dn y.dd ct y.ag (fuL (aq y x ct) (ap y x ct) x.kn (gV LL) LL.length y.li y.le) (fuH (aq y x ct) (ap y x ct) x.kn (gV LL) LL.length y.li y.le)), np := (mrL x.QM x.np y.dn y.dd ct y.ag (fuL (aq y x ct) (ap y x ct) x.kn (gV LL) LL.length y.li y.le) (fuH (aq y x ct) (ap y x ct) x.kn (gV LL) LL.length y.li y.le)).length } a1 c1 qa qc a3 c3).size = 16 := rfl
 have hUl : 0 + (ndV { x with kn := true, lo := fuL (aq y x ct) (ap y x ct) x.kn (gV LL) LL.length y.li y.le, hi := fuH (aq y x ct) (ap y x ct) x.kn (gV LL) LL.length y.li y.le, la := ct, mo := stM x.mo x.ep x.si 3 ct, ep := stE x.mo x.ep x.si 3 ct, si := stS x.mo x.ep x.si 3 ct, QM := gP (mrL x.QM x.np y.dn y.dd ct y.ag (fuL (aq y x ct) (ap y x ct) x.kn (gV LL) LL.length y.li y.le) (fuH (aq y x ct) (ap y x ct) x.kn (gV LL) LL.length y.li y.le)), np := (mrL x.QM x.np y.dn y.dd ct y.ag (fuL (aq y x ct) (ap y x ct) x.kn (gV LL) LL.length y.li y.le) (fuH (aq y x ct) (ap y x ct) x.kn (gV LL) LL.length y.li y.le)).length } a1 c1 qa qc a3 c3).toList.length ≤ 16 := by simp [hU]
 have hF : FX = ({ x with kn := true, lo := fuL (aq y x ct) (ap y x ct) x.kn (gV LL) LL.length y.li y.le, hi := fuH (aq y x ct) (ap y x ct) x.kn (gV LL) LL.length y.li y.le, la := ct, mo := stM x.mo x.ep x.si 3 ct, ep := stE x.mo x.ep x.si 3 ct, si := stS x.mo x.ep x.si 3 ct, QM := gP (mrL x.QM x.np y.dn y.dd ct y.ag (fuL (aq y x ct) (ap y x ct) x.kn (gV LL) LL.length y.li y.le) (fuH (aq y x ct) (ap y x ct) x.kn (gV LL) LL.length y.li y.le)), np := (mrL x.QM x.np y.dn y.dd ct y.ag (fuL (aq y x ct) (ap y x ct) x.kn (gV LL) LL.length y.li y.le) (fuH (aq y x ct) (ap y x ct) x.kn (gV LL) LL.length y.li y.le)).length }, 0) := by rw [HFX]; simp only [hst0, Int.reduceBEq, h10, h2, h3, h4]
 clear HFX
 have hL0 := O.load (P := Tryz.prog) (show ((ndV { x with kn := true, lo := fuL (aq y x ct) (ap y x ct) x.kn (gV LL) LL.length y.li y.le, hi := fuH (aq y x ct) (ap y x ct) x.kn (gV LL) LL.length y.li y.le, la := ct, mo := stM x.mo x.ep x.si 3 ct, ep := stE x.mo x.ep x.si 3 ct, si := stS x.mo x.ep x.si 3 ct, QM := gP (mrL x.QM x.np y.dn y.dd ct y.ag (fuL (aq y x ct) (ap y x ct) x.kn (gV LL) LL.length y.li y.le) (fuH (aq y x ct) (ap y x ct) x.kn (gV LL) LL.length y.li y.le)), np := (mrL x.QM x.np y.dn y.dd ct y.ag (fuL (aq y x ct) (ap y x ct) x.kn (gV LL) LL.length y.li y.le) (fuH (aq y x ct) (ap y x ct) x.kn (gV LL) LL.length y.li y.le)).length } a1 c1 qa qc a3 c3) : Array Value).size = 16 from rfl)
 have hst := Bo.store (P := Tryz.prog) (b := 0) ((ndV { x with kn := true, lo := fuL (aq y x ct) (ap y x ct) x.kn (gV LL) LL.length y.li y.le, hi := fuH (aq y x ct) (ap y x ct) x.kn (gV LL) LL.length y.li y.le, la := ct, mo := stM x.mo x.ep x.si 3 ct, ep := stE x.mo x.ep x.si 3 ct, si := stS x.mo x.ep x.si 3 ct, QM := gP (mrL x.QM x.np y.dn y.dd ct y.ag (fuL (aq y x ct) (ap y x ct) x.kn (gV LL) LL.length y.li y.le) (fuH (aq y x ct) (ap y x ct) x.kn (gV LL) LL.length y.li y.le)), np := (mrL x.QM x.np y.dn y.dd ct y.ag (fuL (aq y x ct) (ap y x ct) x.kn (gV LL) LL.length y.li y.le) (fuH (aq y x ct) (ap y x ct) x.kn (gV LL) LL.length y.li y.le)).length } a1 c1 qa qc a3 c3).toList) 0 0 R rfl hUl (de _ _ _ _ _ _ _)
 have hb : Btw (w.heap.size + 2) (w.heap.size + 2 + 1) v13 _ := ay ((ndV { x with kn := true, lo := fuL (aq y x ct) (ap y x ct) x.kn (gV LL) LL.length y.li y.le, hi := fuH (aq y x ct) (ap y x ct) x.kn (gV LL) LL.length y.li y.le, la := ct, mo := stM x.mo x.ep x.si 3 ct, ep := stE x.mo x.ep x.si 3 ct, si := stS x.mo x.ep x.si 3 ct, QM := gP (mrL x.QM x.np y.dn y.dd ct y.ag (fuL (aq y x ct) (ap y x ct) x.kn (gV LL) LL.length y.li y.le) (fuH (aq y x ct) (ap y x ct) x.kn (gV LL) LL.length y.li y.le)), np := (mrL x.QM x.np y.dn y.dd ct y.ag (fuL (aq y x ct) (ap y x ct) x.kn (gV LL) LL.length y.li y.le) (fuH (aq y x ct) (ap y x ct) x.kn (gV LL) LL.length y.li y.le)).length } a1 c1 qa qc a3 c3).toList) v13 0 (w.heap.size + 2)
 have B1 := an (k := w.heap.size + 2) ((ndV { x with kn := true, lo := fuL (aq y x ct) (ap y x ct) x.kn (gV LL) LL.length y.li y.le, hi := fuH (aq y x ct) (ap y x ct) x.kn (gV LL) LL.length y.li y.le, la := ct, mo := stM x.mo x.ep x.si 3 ct, ep := stE x.mo x.ep x.si 3 ct, si := stS x.mo x.ep x.si 3 ct, QM := gP (mrL x.QM x.np y.dn y.dd ct y.ag (fuL (aq y x ct) (ap y x ct) x.kn (gV LL) LL.length y.li y.le) (fuH (aq y x ct) (ap y x ct) x.kn (gV LL) LL.length y.li y.le)), np := (mrL x.QM x.np y.dn y.dd ct y.ag (fuL (aq y x ct) (ap y x ct) x.kn (gV LL) LL.length y.li y.le) (fuH (aq y x ct) (ap y x ct) x.kn (gV LL) LL.length y.li y.le)).length } a1 c1 qa qc a3 c3).toList) w v13 0 B (by omega)
 have N1 : Bo (aF v13 (w.heap.size + 2) 0 ((ndV { x with kn := true, lo := fuL (aq y x ct) (ap y x ct) x.kn (gV LL) LL.length y.li y.le, hi := fuH (aq y x ct) (ap y x ct) x.kn (gV LL) LL.length y.li y.le, la := ct, mo := stM x.mo x.ep x.si 3 ct, ep := stE x.mo x.ep x.si 3 ct, si := stS x.mo x.ep x.si 3 ct, QM := gP (mrL x.QM x.np y.dn y.dd ct y.ag (fuL (aq y x ct) (ap y x ct) x.kn (gV LL) LL.length y.li y.le) (fuH (aq y x ct) (ap y x ct) x.kn (gV LL) LL.length y.li y.le)), np := (mrL x.QM x.np y.dn y.dd ct y.ag (fuL (aq y x ct) (ap y x ct) x.kn (gV LL) LL.length y.li y.le) (fuH (aq y x ct) (ap y x ct) x.kn (gV LL) LL.length y.li y.le)).length } a1 c1 qa qc a3 c3).toList)) (w.heap.size + 2) ((ndV { x with kn := true, lo := fuL (aq y x ct) (ap y x ct) x.kn (gV LL) LL.length y.li y.le, hi := fuH (aq y x ct) (ap y x ct) x.kn (gV LL) LL.length y.li y.le, la := ct, mo := stM x.mo x.ep x.si 3 ct, ep := stE x.mo x.ep x.si 3 ct, si := stS x.mo x.ep x.si 3 ct, QM := gP (mrL x.QM x.np y.dn y.dd ct y.ag (fuL (aq y x ct) (ap y x ct) x.kn (gV LL) LL.length y.li y.le) (fuH (aq y x ct) (ap y x ct) x.kn (gV LL) LL.length y.li y.le)), np := (mrL x.QM x.np y.dn y.dd ct y.ag (fuL (aq y x ct) (ap y x ct) x.kn (gV LL) LL.length y.li y.le) (fuH (aq y x ct) (ap y x ct) x.kn (gV LL) LL.length y.li y.le)).length } a1 c1 qa qc a3 c3)) := R.putW (U := (ndV { x with kn := true, lo := fuL (aq y x ct) (ap y x ct) x.kn (gV LL) LL.length y.li y.le, hi := fuH (aq y x ct) (ap y x ct) x.kn (gV LL) LL.length y.li y.le, la := ct, mo := stM x.mo x.ep x.si 3 ct, ep := stE x.mo x.ep x.si 3 ct, si := stS x.mo x.ep x.si 3 ct, QM := gP (mrL x.QM x.np y.dn y.dd ct y.ag (fuL (aq y x ct) (ap y x ct) x.kn (gV LL) LL.length y.li y.le) (fuH (aq y x ct) (ap y x ct) x.kn (gV LL) LL.length y.li y.le)), np := (mrL x.QM x.np y.dn y.dd ct y.ag (fuL (aq y x ct) (ap y x ct) x.kn (gV LL) LL.length y.li y.le) (fuH (aq y x ct) (ap y x ct) x.kn (gV LL) LL.length y.li y.le)).length } a1 c1 qa qc a3 c3)) hU
 go_wp2_with (first | rw [hL0] | rw [hst])
 clear hst hL0 R B
 replace C := C.btw hb (by omega)
 replace N := N.btw hb (by omega)
 replace Q := Q.btw hb (by omega)
 replace P := P.btw hb (by omega)
 replace O := O.btw hb (by omega)
 replace P1 := P1.btw hb (by omega)
 replace P3 := P3.btw hb (by omega)
 replace RP := RP.btw hb (by omega)
 have zv14 := hb.2.2.2.1
 clear hb
 generalize aF v13 (w.heap.size + 2) 0 ((ndV { x with kn := true, lo := fuL (aq y x ct) (ap y x ct) x.kn (gV LL) LL.length y.li y.le, hi := fuH (aq y x ct) (ap y x ct) x.kn (gV LL) LL.length y.li y.le, la := ct, mo := stM x.mo x.ep x.si 3 ct, ep := stE x.mo x.ep x.si 3 ct, si := stS x.mo x.ep x.si 3 ct, QM := gP (mrL x.QM x.np y.dn y.dd ct y.ag (fuL (aq y x ct) (ap y x ct) x.kn (gV LL) LL.length y.li y.le) (fuH (aq y x ct) (ap y x ct) x.kn (gV LL) LL.length y.li y.le)), np := (mrL x.QM x.np y.dn y.dd ct y.ag (fuL (aq y x ct) (ap y x ct) x.kn (gV LL) LL.length y.li y.le) (fuH (aq y x ct) (ap y x ct) x.kn (gV LL) LL.length y.li y.le)).length } a1 c1 qa qc a3 c3).toList) = v14 at *
 have B := B1
 have R := N1
 clear B1 N1
 have hL0 := R.load (P := Tryz.prog) hU
 exact bodyPost_ret (v := .tuple #[.agg (ndV { x with kn := true, lo := fuL (aq y x ct) (ap y x ct) x.kn (gV LL) LL.length y.li y.le, hi := fuH (aq y x ct) (ap y x ct) x.kn (gV LL) LL.length y.li y.le, la := ct, mo := stM x.mo x.ep x.si 3 ct, ep := stE x.mo x.ep x.si 3 ct, si := stS x.mo x.ep x.si 3 ct, QM := gP (mrL x.QM x.np y.dn y.dd ct y.ag (fuL (aq y x ct) (ap y x ct) x.kn (gV LL) LL.length y.li y.le) (fuH (aq y x ct) (ap y x ct) x.kn (gV LL) LL.length y.li y.le)), np := (mrL x.QM x.np y.dn y.dd ct y.ag (fuL (aq y x ct) (ap y x ct) x.kn (gV LL) LL.length y.li y.le) (fuH (aq y x ct) (ap y x ct) x.kn (gV LL) LL.length y.li y.le)).length } a1 c1 qa qc a3 c3), .int .i64 0]) (by simp [results, Tryz.results19, go_sem]; rw [hL0]; rfl) rfl ⟨_, by rw [hF], by rw [hF]; exact ⟨a1, c1, qa, qc, a3, c3, rfl, ⟨hbn.1, hml, hbn.2.2⟩, P1.low (by omega), RP.low (by omega), P3.low (by omega)⟩, B⟩
end Go.Proofs.YtikbjljkakabdaaGreat
