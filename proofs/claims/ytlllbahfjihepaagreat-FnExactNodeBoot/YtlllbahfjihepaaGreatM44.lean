/- NodeBoot, NodeCrash (the program), over arrays of cells. -/
import Derived.Deep.RegionHeld3
import Derived.Deep.DeepCutAuto
import Derived.WalkKit
import Derived.WalkSpells
import Derived.WalkLawsBesides
import Derived.Deep.RegionHeld
import Derived.Test.YtlllbahfjihepaaGreatM40
import Derived.Test.YtlllbahfjihepaaGreatM43
import Derived.Test.YtlllbahfjihepaaGreatM36
import Derived.Test.YtlllbahfjihepaaGreatM39
import Derived.Test.YtlllbahfjihepaaGreatM7
import Derived.Test.YtlllbahfjihepaaGreatM25
namespace Go.Proofs.YtlllbahfjihepaaGreat
open Go.RowKit
set_option linter.unusedVariables false
attribute [-go_sem] loadCells storeCells in
set_option maxRecDepth 100000 in
set_option maxHeartbeats 8000000 in
theorem anewX (AN : Array Value) (x : NdX) (kd ct : Int) (w : World) (HN : NdS w AN x) :
    Calls Tryz.prog 30 #[.agg AN, .int .i64 kd, .int .i64 ct] w fun e w' => ∃ R, e = .returned (.agg R) ∧ NdO w' w.heap.size w'.heap.size R (zX (nwN x.ni) (stM x.mo x.ep x.si kd ct) (stE x.mo x.ep x.si kd ct) (stS x.mo x.ep x.si kd ct) (stE x.mo x.ep x.si kd ct) (nwS x.ni)) ∧ Below w.heap.size w w' := by
  obtain ⟨aa, ac, pa, pc, ha, hc, rfl, -, -, -, -⟩ := HN
  have CN : ∀ v, Calls Tryz.prog 59 #[.int .i64 x.ni] v fun e w' => e = .returned (.agg (ndV (zX (nwN x.ni) (0) (0) (0) (0) (nwS x.ni)) none 0 none 0 none 0)) ∧ Below v.heap.size v w' := fun v => implNewNode_any x.ni v
  have CL := fun v => implLifeStep_any x.mo x.ep x.si kd ct v
  have A0 := Below.nw w (.cells (ndV x aa ac pa pc ha hc) 49)
  have A1 := Below.nw (w.alloc (.cells (ndV x aa ac pa pc ha hc) 49)) (.cells #[.int .i64 0, .int .i64 0, .int .i64 0, .int .i64 0, .bool false, .int .i64 0, .int .i64 0, .int .i64 0, .int .i64 0, .int .i64 0, .slice none 0 0, .slice none 0 0, .bool false, .int .i64 0, .slice none 0 0, .int .i64 0] 49)
  have N := (Bo.new w (ndV x aa ac pa pc ha hc) 49).below A1
  have R := Bo.new (w.alloc (.cells (ndV x aa ac pa pc ha hc) 49)) #[.int .i64 0, .int .i64 0, .int .i64 0, .int .i64 0, .bool false, .int .i64 0, .int .i64 0, .int .i64 0, .int .i64 0, .int .i64 0, .slice none 0 0, .slice none 0 0, .bool false, .int .i64 0, .slice none 0 0, .int .i64 0] 49
  have B := A0
  replace B := B.trans (A1.mono B.size)
  simp only [World.size_alloc] at R
  clear A0 A1
  go_enter Tryz.func30, Tryz.ntmps30
  go_upto_region 1 with fail
  generalize ((w.alloc (.cells (ndV x aa ac pa pc ha hc) 49))).alloc (.cells #[.int .i64 0, .int .i64 0, .int .i64 0, .int .i64 0, .bool false, .int .i64 0, .int .i64 0, .int .i64 0, .int .i64 0, .int .i64 0, .slice none 0 0, .slice none 0 0, .bool false, .int .i64 0, .slice none 0 0, .int .i64 0] 49) = v0 at *
  have hL0 : v0.cell? ⟨w.heap.size, 0, none⟩ = some (.int .i64 x.ni) := N.cell rfl
  go_wp2_with fail
  refine (CN v0).mono ?_
  rintro e v1 ⟨rfl, hb⟩
  clear hL0
  replace B := B.trans (hb.mono B.size)
  replace N := N.below hb
  replace R := R.below hb
  clear hb
  have hQ0 : (ndV (zX (nwN x.ni) (0) (0) (0) (0) (nwS x.ni)) none 0 none 0 none 0).size = 16 := rfl
  have hst := storeNew (P := Tryz.prog) v1 (#[.int .i64 0, .int .i64 0, .int .i64 0, .int .i64 0, .bool false, .int .i64 0, .int .i64 0, .int .i64 0, .int .i64 0, .int .i64 0, .slice none 0 0, .slice none 0 0, .bool false, .int .i64 0, .slice none 0 0, .int .i64 0]) (ndV (zX (nwN x.ni) (0) (0) (0) (0) (nwS x.ni)) none 0 none 0 none 0) 49 (by rw [hQ0]; rfl) (ndV_one _ _ _ _ _ _ _)
  have gQN : w.heap.size < v1.heap.size := N.1
  have gQR : w.heap.size + 1 < v1.heap.size := R.1
  have hb := Below.nw v1 (.cells (ndV (zX (nwN x.ni) (0) (0) (0) (0) (nwS x.ni)) none 0 none 0 none 0) 49)
  have Q := Bo.new v1 (ndV (zX (nwN x.ni) (0) (0) (0) (0) (nwS x.ni)) none 0 none 0 none 0) 49
  go_upto_region 2 with (rw [hst])
  clear hst
  replace B := B.trans (hb.mono B.size)
  replace N := N.below hb
  replace R := R.below hb
  clear hb
  generalize v1.alloc (.cells (ndV (zX (nwN x.ni) (0) (0) (0) (0) (nwS x.ni)) none 0 none 0 none 0) 49) = v2 at *
  generalize v1.heap.size = kQ at *
  have hL0 : (loadCells ⟨w.heap.size, 1, none⟩ 3).run Tryz.prog v2 = .ok #[.int .i64 x.mo, .int .i64 x.ep, .int .i64 x.si] v2 := N.loadAt (P := Tryz.prog) 1 3 (show 1 + 3 ≤ 16 by decide)
  go_wp2_with (rw [hL0])
  refine (CL v2).mono ?_
  rintro e v3 ⟨rfl, hb⟩
  clear hL0
  replace B := B.trans (hb.mono B.size)
  replace N := N.below hb
  replace R := R.below hb
  replace Q := Q.below hb
  clear hb
  have hst := Bo.store (P := Tryz.prog) (b := 1) ([.int .i64 (stM x.mo x.ep x.si kd ct), .int .i64 (stE x.mo x.ep x.si kd ct), .int .i64 (stS x.mo x.ep x.si kd ct)]) 1 0 Q rfl (show 1 + 3 ≤ 16 by decide) (List.forall_mem_cons.2 ⟨rfl, (List.forall_mem_cons.2 ⟨rfl, (List.forall_mem_cons.2 ⟨rfl, fun _ h => nomatch h⟩)⟩)⟩)
  have hb : Btw (kQ) (kQ + 1) v3 _ := putA_btw ([.int .i64 (stM x.mo x.ep x.si kd ct), .int .i64 (stE x.mo x.ep x.si kd ct), .int .i64 (stS x.mo x.ep x.si kd ct)]) v3 1 (kQ)
  have B1 := putA_below (k := kQ) ([.int .i64 (stM x.mo x.ep x.si kd ct), .int .i64 (stE x.mo x.ep x.si kd ct), .int .i64 (stS x.mo x.ep x.si kd ct)]) w v3 1 B (by omega)
  have N1 : Bo (putA v3 (kQ) 1 ([.int .i64 (stM x.mo x.ep x.si kd ct), .int .i64 (stE x.mo x.ep x.si kd ct), .int .i64 (stS x.mo x.ep x.si kd ct)])) (kQ) ((ndV (zX (nwN x.ni) (stM x.mo x.ep x.si kd ct) (stE x.mo x.ep x.si kd ct) (stS x.mo x.ep x.si kd ct) (0) (nwS x.ni)) none 0 none 0 none 0)) := Bo.put ([.int .i64 (stM x.mo x.ep x.si kd ct), .int .i64 (stE x.mo x.ep x.si kd ct), .int .i64 (stS x.mo x.ep x.si kd ct)]) 1 Q
  go_upto_region 3 with (rw [hst])
  clear hst  Q B
  replace N := N.btw hb (by omega)
  replace R := R.btw hb (by omega)
  clear hb
  generalize putA v3 (kQ) 1 ([.int .i64 (stM x.mo x.ep x.si kd ct), .int .i64 (stE x.mo x.ep x.si kd ct), .int .i64 (stS x.mo x.ep x.si kd ct)]) = v4 at *
  have B := B1
  have Q := N1
  clear B1 N1
  have hL0 : v4.cell? ⟨kQ, 2, none⟩ = some (.int .i64 (stE x.mo x.ep x.si kd ct)) := Q.cell rfl
  have hst := Bo.store (P := Tryz.prog) (b := 8) [.int .i64 (stE x.mo x.ep x.si kd ct)] 8 0 Q rfl (show 8 + 1 ≤ 16 by decide) (List.forall_mem_cons.2 ⟨rfl, fun _ h => nomatch h⟩)
  have hb : Btw (kQ) (kQ + 1) v4 (putA v4 (kQ) 8 [.int .i64 (stE x.mo x.ep x.si kd ct)]) := putA_btw [.int .i64 (stE x.mo x.ep x.si kd ct)] v4 8 (kQ)
  have B1 := putA_below (k := kQ) [.int .i64 (stE x.mo x.ep x.si kd ct)] w v4 8 B (by omega)
  have N1 : Bo (putA v4 (kQ) 8 [.int .i64 (stE x.mo x.ep x.si kd ct)]) (kQ) ((ndV (zX (nwN x.ni) (stM x.mo x.ep x.si kd ct) (stE x.mo x.ep x.si kd ct) (stS x.mo x.ep x.si kd ct) (stE x.mo x.ep x.si kd ct) (nwS x.ni)) none 0 none 0 none 0)) := Bo.put [.int .i64 (stE x.mo x.ep x.si kd ct)] 8 Q
  go_upto_region 4 with (rw [hst])
  clear hst hL0 Q B
  replace N := N.btw hb (by omega)
  replace R := R.btw hb (by omega)
  clear hb
  generalize putA v4 (kQ) 8 [.int .i64 (stE x.mo x.ep x.si kd ct)] = v5 at *
  have B := B1
  have Q := N1
  clear B1 N1
  have hU : (ndV (zX (nwN x.ni) (stM x.mo x.ep x.si kd ct) (stE x.mo x.ep x.si kd ct) (stS x.mo x.ep x.si kd ct) (stE x.mo x.ep x.si kd ct) (nwS x.ni)) none 0 none 0 none 0).size = 16 := rfl
  have hUl : 0 + (ndV (zX (nwN x.ni) (stM x.mo x.ep x.si kd ct) (stE x.mo x.ep x.si kd ct) (stS x.mo x.ep x.si kd ct) (stE x.mo x.ep x.si kd ct) (nwS x.ni)) none 0 none 0 none 0).toList.length ≤ 16 := by simp [hU]
  have hL0 := Q.load (P := Tryz.prog) (show ((ndV (zX (nwN x.ni) (stM x.mo x.ep x.si kd ct) (stE x.mo x.ep x.si kd ct) (stS x.mo x.ep x.si kd ct) (stE x.mo x.ep x.si kd ct) (nwS x.ni)) none 0 none 0 none 0) : Array Value).size = 16 from rfl)
  have hst := Bo.store (P := Tryz.prog) (b := 0) ((ndV (zX (nwN x.ni) (stM x.mo x.ep x.si kd ct) (stE x.mo x.ep x.si kd ct) (stS x.mo x.ep x.si kd ct) (stE x.mo x.ep x.si kd ct) (nwS x.ni)) none 0 none 0 none 0).toList) 0 0 R rfl hUl (ndV_one _ _ _ _ _ _ _)
  have hb : Btw (w.heap.size + 1) (w.heap.size + 1 + 1) v5 _ := putA_btw ((ndV (zX (nwN x.ni) (stM x.mo x.ep x.si kd ct) (stE x.mo x.ep x.si kd ct) (stS x.mo x.ep x.si kd ct) (stE x.mo x.ep x.si kd ct) (nwS x.ni)) none 0 none 0 none 0).toList) v5 0 (w.heap.size + 1)
  have B1 := putA_below (k := w.heap.size + 1) ((ndV (zX (nwN x.ni) (stM x.mo x.ep x.si kd ct) (stE x.mo x.ep x.si kd ct) (stS x.mo x.ep x.si kd ct) (stE x.mo x.ep x.si kd ct) (nwS x.ni)) none 0 none 0 none 0).toList) w v5 0 B (by omega)
  have N1 := R.putW (U := (ndV (zX (nwN x.ni) (stM x.mo x.ep x.si kd ct) (stE x.mo x.ep x.si kd ct) (stS x.mo x.ep x.si kd ct) (stE x.mo x.ep x.si kd ct) (nwS x.ni)) none 0 none 0 none 0)) hU
  go_wp2_with (first | rw [hL0] | rw [hst])
  clear hst hL0 R B
  replace N := N.btw hb (by omega)
  replace Q := Q.btw hb (by omega)
  clear hb
  generalize putA v5 (w.heap.size + 1) 0 ((ndV (zX (nwN x.ni) (stM x.mo x.ep x.si kd ct) (stE x.mo x.ep x.si kd ct) (stS x.mo x.ep x.si kd ct) (stE x.mo x.ep x.si kd ct) (nwS x.ni)) none 0 none 0 none 0).toList) = v6 at *
  have B := B1
  have R := N1
  clear B1 N1
  have hL0 := R.load (P := Tryz.prog) hU
  exact bodyPost_ret (v := .agg (ndV (zX (nwN x.ni) (stM x.mo x.ep x.si kd ct) (stE x.mo x.ep x.si kd ct) (stS x.mo x.ep x.si kd ct) (stE x.mo x.ep x.si kd ct) (nwS x.ni)) none 0 none 0 none 0)) (by simp [results, Tryz.results30, go_sem]; rw [hL0]; rfl) rfl ⟨_, rfl, zX_own _ _ _ _ _ _ _ _ _, B⟩
attribute [-go_sem] loadCells storeCells in
set_option maxRecDepth 100000 in
set_option maxHeartbeats 8000000 in
theorem implBootX (AN : Array Value) (x : NdX) (ct : Int) (w : World) (HN : NdS w AN x) (hwf : wfX x) :
    Calls Tryz.prog 8 #[.agg AN, .int .i64 ct] w fun e w' => ∃ R, e = .returned (.tuple #[.agg R, .int .i64 (bootX x ct).2]) ∧ NdO w' w.heap.size w'.heap.size R (bootX x ct).1 ∧ Below w.heap.size w w' := by
  cases hk : okX x && cmX x ct
  · skip
    have hF : bootX x ct = (zX 0 0 0 0 0 0, 1) := by unfold bootX; simp only [hk]
    rw [hF]
    clear hF
    have hfi : fiI (okX x) (cmX x ct) x.mo = 1 := by unfold fiI; rw [hk]
    have hN := HN.size
    have CC := fun (v : World) (h : Below w.heap.size w v) => codeAt_any AN x ct v (HN.below h).weak hwf
    have CD := fun (v : World) (h : Below w.heap.size w v) => isDown_any AN x v (HN.below h).weak
    have CP := fun (hs : x.na ≤ 16 ∧ x.np ≤ 8 ∧ x.nh ≤ 16) (v : World) (h : Below w.heap.size w v) => copiedX AN x v (HN.below h) hs
    have CA := fun (v : World) (h : Below w.heap.size w v) => anewX AN x 1 ct v (HN.below h)
    obtain ⟨aa, ac, pa, pc, ha, hc, rfl, -, -, -, -⟩ := HN
    clear hwf
    have A0 := Below.nw w (.cells (ndV x aa ac pa pc ha hc) 49)
    have A1 := Below.nw (w.alloc (.cells (ndV x aa ac pa pc ha hc) 49)) (.cells #[.int .i64 0, .int .i64 0, .int .i64 0, .int .i64 0, .bool false, .int .i64 0, .int .i64 0, .int .i64 0, .int .i64 0, .int .i64 0, .slice none 0 0, .slice none 0 0, .bool false, .int .i64 0, .slice none 0 0, .int .i64 0] 49)
    have N := (Bo.new w (ndV x aa ac pa pc ha hc) 49).below A1
    have R := Bo.new (w.alloc (.cells (ndV x aa ac pa pc ha hc) 49)) #[.int .i64 0, .int .i64 0, .int .i64 0, .int .i64 0, .bool false, .int .i64 0, .int .i64 0, .int .i64 0, .int .i64 0, .int .i64 0, .slice none 0 0, .slice none 0 0, .bool false, .int .i64 0, .slice none 0 0, .int .i64 0] 49
    have B := A0
    replace B := B.trans (A1.mono B.size)
    simp only [World.size_alloc] at R
    clear A0 A1
    go_enter Tryz.func8, Tryz.ntmps8
    go_upto_region 1 with fail
    generalize ((w.alloc (.cells (ndV x aa ac pa pc ha hc) 49))).alloc (.cells #[.int .i64 0, .int .i64 0, .int .i64 0, .int .i64 0, .bool false, .int .i64 0, .int .i64 0, .int .i64 0, .int .i64 0, .int .i64 0, .slice none 0 0, .slice none 0 0, .bool false, .int .i64 0, .slice none 0 0, .int .i64 0] 49) = v0 at *
    have hL0 := N.load (P := Tryz.prog) hN
    go_wp2_with (rw [hL0])
    refine (CC v0 B).mono ?_
    rintro e v1 ⟨rfl, hb⟩
    clear hL0
    rw [hfi]
    replace B := B.trans (hb.mono B.size)
    replace N := N.below hb
    replace R := R.below hb
    clear hb
    have hU : (ndV (zX 0 0 0 0 0 0) none 0 none 0 none 0).size = 16 := rfl
    have hUl : 0 + (ndV (zX 0 0 0 0 0 0) none 0 none 0 none 0).toList.length ≤ 16 := by simp [hU]
    have hst : (storeCells ⟨w.heap.size + 1, 0, none⟩ [.int .i64 0, .int .i64 0, .int .i64 0, .int .i64 0, .bool false, .int .i64 0, .int .i64 0, .int .i64 0, .int .i64 0, .int .i64 0, .slice none 0 0, .slice none 0 0, .bool false, .int .i64 0, .slice none 0 0, .int .i64 0] 0).run Tryz.prog v1 = .ok () (putA v1 (w.heap.size + 1) 0 ((ndV (zX 0 0 0 0 0 0) none 0 none 0 none 0).toList)) := Bo.store (P := Tryz.prog) (b := 0) ((ndV (zX 0 0 0 0 0 0) none 0 none 0 none 0).toList) 0 0 R rfl hUl (ndV_one _ _ _ _ _ _ _)
    have hb : Btw (w.heap.size + 1) (w.heap.size + 1 + 1) v1 _ := putA_btw ((ndV (zX 0 0 0 0 0 0) none 0 none 0 none 0).toList) v1 0 (w.heap.size + 1)
    have B1 := putA_below (k := w.heap.size + 1) ((ndV (zX 0 0 0 0 0 0) none 0 none 0 none 0).toList) w v1 0 B (by omega)
    have N1 := R.putW (U := (ndV (zX 0 0 0 0 0 0) none 0 none 0 none 0)) hU
    go_wp2_with (rw [hst])
    clear hst  R B
    replace N := N.btw hb (by omega)
    clear hb
    generalize putA v1 (w.heap.size + 1) 0 ((ndV (zX 0 0 0 0 0 0) none 0 none 0 none 0).toList) = v2 at *
    have B := B1
    have R := N1
    clear B1 N1
    have hL0 := R.load (P := Tryz.prog) hU
    exact bodyPost_ret (v := .tuple #[.agg (ndV (zX 0 0 0 0 0 0) none 0 none 0 none 0), .int .i64 1]) (by simp [results, Tryz.results8, go_sem]; rw [hL0]; rfl) rfl ⟨_, rfl, zX_own 0 0 0 0 0 0 _ _ _, B⟩
  have hsh := okX_short (x := x) (by simp only [Bool.and_eq_true] at hk; exact hk.1)
  cases hm : x.mo == 0
  · skip
    have hF : bootX x ct = (x, 14) := by unfold bootX; simp only [hk, hm]
    rw [hF]
    clear hF
    have hfi : fiI (okX x) (cmX x ct) x.mo = 0 := by unfold fiI; rw [hk, hm]
    have hN := HN.size
    have CC := fun (v : World) (h : Below w.heap.size w v) => codeAt_any AN x ct v (HN.below h).weak hwf
    have CD := fun (v : World) (h : Below w.heap.size w v) => isDown_any AN x v (HN.below h).weak
    have CP := fun (hs : x.na ≤ 16 ∧ x.np ≤ 8 ∧ x.nh ≤ 16) (v : World) (h : Below w.heap.size w v) => copiedX AN x v (HN.below h) hs
    have CA := fun (v : World) (h : Below w.heap.size w v) => anewX AN x 1 ct v (HN.below h)
    obtain ⟨aa, ac, pa, pc, ha, hc, rfl, -, -, -, -⟩ := HN
    clear hwf
    have A0 := Below.nw w (.cells (ndV x aa ac pa pc ha hc) 49)
    have A1 := Below.nw (w.alloc (.cells (ndV x aa ac pa pc ha hc) 49)) (.cells #[.int .i64 0, .int .i64 0, .int .i64 0, .int .i64 0, .bool false, .int .i64 0, .int .i64 0, .int .i64 0, .int .i64 0, .int .i64 0, .slice none 0 0, .slice none 0 0, .bool false, .int .i64 0, .slice none 0 0, .int .i64 0] 49)
    have N := (Bo.new w (ndV x aa ac pa pc ha hc) 49).below A1
    have R := Bo.new (w.alloc (.cells (ndV x aa ac pa pc ha hc) 49)) #[.int .i64 0, .int .i64 0, .int .i64 0, .int .i64 0, .bool false, .int .i64 0, .int .i64 0, .int .i64 0, .int .i64 0, .int .i64 0, .slice none 0 0, .slice none 0 0, .bool false, .int .i64 0, .slice none 0 0, .int .i64 0] 49
    have B := A0
    replace B := B.trans (A1.mono B.size)
    simp only [World.size_alloc] at R
    clear A0 A1
    go_enter Tryz.func8, Tryz.ntmps8
    go_upto_region 1 with fail
    generalize ((w.alloc (.cells (ndV x aa ac pa pc ha hc) 49))).alloc (.cells #[.int .i64 0, .int .i64 0, .int .i64 0, .int .i64 0, .bool false, .int .i64 0, .int .i64 0, .int .i64 0, .int .i64 0, .int .i64 0, .slice none 0 0, .slice none 0 0, .bool false, .int .i64 0, .slice none 0 0, .int .i64 0] 49) = v0 at *
    have hL0 := N.load (P := Tryz.prog) hN
    go_wp2_with (rw [hL0])
    refine (CC v0 B).mono ?_
    rintro e v1 ⟨rfl, hb⟩
    clear hL0
    rw [hfi]
    replace B := B.trans (hb.mono B.size)
    replace N := N.below hb
    replace R := R.below hb
    clear hb
    have hL0 := N.load (P := Tryz.prog) hN
    go_wp2_with (rw [hL0])
    refine (CD v1 B).mono ?_
    rintro e v2 ⟨rfl, hb⟩
    clear hL0
    rw [hm]
    replace B := B.trans (hb.mono B.size)
    replace N := N.below hb
    replace R := R.below hb
    clear hb
    have hL0 := N.load (P := Tryz.prog) hN
    go_wp2_with (rw [hL0])
    refine (CP hsh v2 B).mono ?_
    rintro e v3 ⟨U, rfl, OU, hb⟩
    clear hL0
    have q1N : w.heap.size < v2.heap.size := N.1
    have q1R : w.heap.size + 1 < v2.heap.size := R.1
    have q1 : w.heap.size ≤ v2.heap.size := B.size
    have zv3 : v2.heap.size ≤ v3.heap.size := hb.size
    replace B := B.trans (hb.mono B.size)
    replace N := N.below hb
    replace R := R.below hb
    clear hb
    have hU := OU.size
    have hUl : 0 + U.toList.length ≤ 16 := by simp [hU]
    have hst := Bo.store (P := Tryz.prog) (b := 0) (U.toList) 0 0 R rfl hUl OU.one
    have hb : Btw (w.heap.size + 1) (w.heap.size + 1 + 1) v3 _ := putA_btw (U.toList) v3 0 (w.heap.size + 1)
    have B1 := putA_below (k := w.heap.size + 1) (U.toList) w v3 0 B (by omega)
    have N1 := R.putW (U := U) hU
    go_wp2_with (rw [hst])
    clear hst  R B
    replace N := N.btw hb (by omega)
    replace OU := OU.btw hb (by omega)
    have zv4 := hb.2.2.2.1
    clear hb
    generalize putA v3 (w.heap.size + 1) 0 (U.toList) = v4 at *
    have B := B1
    have R := N1
    clear B1 N1
    have hL0 := R.load (P := Tryz.prog) hU
    exact bodyPost_ret (v := .tuple #[.agg U, .int .i64 14]) (by simp [results, Tryz.results8, go_sem]; rw [hL0]; rfl) rfl ⟨_, rfl, OU.low (by omega), B⟩
  cases he : x.ep == 100000
  · skip
    have hF : bootX x ct = (zX (nwN x.ni) (stM x.mo x.ep x.si 1 ct) (stE x.mo x.ep x.si 1 ct) (stS x.mo x.ep x.si 1 ct) (stE x.mo x.ep x.si 1 ct) ct, 0) := by unfold bootX; simp only [hk, hm, he]
    rw [hF]
    clear hF
    have hfi : fiI (okX x) (cmX x ct) x.mo = 2 := by unfold fiI; rw [hk, hm]
    have hN := HN.size
    have CC := fun (v : World) (h : Below w.heap.size w v) => codeAt_any AN x ct v (HN.below h).weak hwf
    have CD := fun (v : World) (h : Below w.heap.size w v) => isDown_any AN x v (HN.below h).weak
    have CP := fun (hs : x.na ≤ 16 ∧ x.np ≤ 8 ∧ x.nh ≤ 16) (v : World) (h : Below w.heap.size w v) => copiedX AN x v (HN.below h) hs
    have CA := fun (v : World) (h : Below w.heap.size w v) => anewX AN x 1 ct v (HN.below h)
    obtain ⟨aa, ac, pa, pc, ha, hc, rfl, -, -, -, -⟩ := HN
    clear hwf
    have A0 := Below.nw w (.cells (ndV x aa ac pa pc ha hc) 49)
    have A1 := Below.nw (w.alloc (.cells (ndV x aa ac pa pc ha hc) 49)) (.cells #[.int .i64 0, .int .i64 0, .int .i64 0, .int .i64 0, .bool false, .int .i64 0, .int .i64 0, .int .i64 0, .int .i64 0, .int .i64 0, .slice none 0 0, .slice none 0 0, .bool false, .int .i64 0, .slice none 0 0, .int .i64 0] 49)
    have N := (Bo.new w (ndV x aa ac pa pc ha hc) 49).below A1
    have R := Bo.new (w.alloc (.cells (ndV x aa ac pa pc ha hc) 49)) #[.int .i64 0, .int .i64 0, .int .i64 0, .int .i64 0, .bool false, .int .i64 0, .int .i64 0, .int .i64 0, .int .i64 0, .int .i64 0, .slice none 0 0, .slice none 0 0, .bool false, .int .i64 0, .slice none 0 0, .int .i64 0] 49
    have B := A0
    replace B := B.trans (A1.mono B.size)
    simp only [World.size_alloc] at R
    clear A0 A1
    go_enter Tryz.func8, Tryz.ntmps8
    go_upto_region 1 with fail
    generalize ((w.alloc (.cells (ndV x aa ac pa pc ha hc) 49))).alloc (.cells #[.int .i64 0, .int .i64 0, .int .i64 0, .int .i64 0, .bool false, .int .i64 0, .int .i64 0, .int .i64 0, .int .i64 0, .int .i64 0, .slice none 0 0, .slice none 0 0, .bool false, .int .i64 0, .slice none 0 0, .int .i64 0] 49) = v0 at *
    have hL0 := N.load (P := Tryz.prog) hN
    go_wp2_with (rw [hL0])
    refine (CC v0 B).mono ?_
    rintro e v1 ⟨rfl, hb⟩
    clear hL0
    rw [hfi]
    replace B := B.trans (hb.mono B.size)
    replace N := N.below hb
    replace R := R.below hb
    clear hb
    have hL0 := N.load (P := Tryz.prog) hN
    go_wp2_with (rw [hL0])
    refine (CD v1 B).mono ?_
    rintro e v2 ⟨rfl, hb⟩
    clear hL0
    rw [hm]
    replace B := B.trans (hb.mono B.size)
    replace N := N.below hb
    replace R := R.below hb
    clear hb
    have hL0 : v2.cell? ⟨w.heap.size, 2, none⟩ = some (.int .i64 x.ep) := N.cell rfl
    have hL1 := N.load (P := Tryz.prog) hN
    go_wp2_with (rw [hL1])
    refine (CA v2 B).mono ?_
    rintro e v3 ⟨U, rfl, OU, hb⟩
    clear hL0 hL1
    have q1N : w.heap.size < v2.heap.size := N.1
    have q1R : w.heap.size + 1 < v2.heap.size := R.1
    have q1 : w.heap.size ≤ v2.heap.size := B.size
    have zv3 : v2.heap.size ≤ v3.heap.size := hb.size
    replace B := B.trans (hb.mono B.size)
    replace N := N.below hb
    replace R := R.below hb
    clear hb
    have hU := OU.size
    have hst := storeNew (P := Tryz.prog) v3 (#[.int .i64 0, .int .i64 0, .int .i64 0, .int .i64 0, .bool false, .int .i64 0, .int .i64 0, .int .i64 0, .int .i64 0, .int .i64 0, .slice none 0 0, .slice none 0 0, .bool false, .int .i64 0, .slice none 0 0, .int .i64 0]) U 49 (by rw [hU]; rfl) OU.one
    have gQN : w.heap.size < v3.heap.size := N.1
    have gQR : w.heap.size + 1 < v3.heap.size := R.1
    have gQOU : v3.heap.size ≤ v3.heap.size := by omega
    have hb := Below.nw v3 (.cells U 49)
    have Q := Bo.new v3 U 49
    go_upto_region 8 with (rw [hst])
    clear hst
    replace B := B.trans (hb.mono B.size)
    replace N := N.below hb
    replace R := R.below hb
    replace OU := OU.below hb
    clear hb
    generalize v3.alloc (.cells U 49) = v4 at *
    generalize v3.heap.size = kQ at *
    have zv4 : kQ ≤ v4.heap.size := Nat.le_of_lt Q.1
    obtain ⟨a1, c1, a2, c2, a3, c3, rfl, hbn, P1, P2, P3⟩ := OU
    clear hU
    have hst := Bo.store (P := Tryz.prog) (b := 15) [.int .i64 ct] 15 0 Q rfl (show 15 + 1 ≤ 16 by decide) (List.forall_mem_cons.2 ⟨rfl, fun _ h => nomatch h⟩)
    have hb : Btw (kQ) (kQ + 1) v4 (putA v4 (kQ) 15 [.int .i64 ct]) := putA_btw [.int .i64 ct] v4 15 (kQ)
    have B1 := putA_below (k := kQ) [.int .i64 ct] w v4 15 B (by omega)
    have N1 : Bo (putA v4 (kQ) 15 [.int .i64 ct]) (kQ) ((ndV (zX (nwN x.ni) (stM x.mo x.ep x.si 1 ct) (stE x.mo x.ep x.si 1 ct) (stS x.mo x.ep x.si 1 ct) (stE x.mo x.ep x.si 1 ct) (ct)) a1 c1 a2 c2 a3 c3)) := Bo.put [.int .i64 ct] 15 Q
    go_upto_region 9 with (rw [hst])
    clear hst  Q B
    replace N := N.btw hb (by omega)
    replace R := R.btw hb (by omega)
    replace P1 := P1.btw hb (by omega)
    replace P2 := P2.btw hb (by omega)
    replace P3 := P3.btw hb (by omega)
    have zv5 := hb.2.2.2.1
    clear hb
    generalize putA v4 (kQ) 15 [.int .i64 ct] = v5 at *
    have B := B1
    have Q := N1
    clear B1 N1
    have hU : (ndV (zX (nwN x.ni) (stM x.mo x.ep x.si 1 ct) (stE x.mo x.ep x.si 1 ct) (stS x.mo x.ep x.si 1 ct) (stE x.mo x.ep x.si 1 ct) (ct)) a1 c1 a2 c2 a3 c3).size = 16 := rfl
    have hUl : 0 + (ndV (zX (nwN x.ni) (stM x.mo x.ep x.si 1 ct) (stE x.mo x.ep x.si 1 ct) (stS x.mo x.ep x.si 1 ct) (stE x.mo x.ep x.si 1 ct) (ct)) a1 c1 a2 c2 a3 c3).toList.length ≤ 16 := by simp [hU]
    have hL0 := Q.load (P := Tryz.prog) (show ((ndV (zX (nwN x.ni) (stM x.mo x.ep x.si 1 ct) (stE x.mo x.ep x.si 1 ct) (stS x.mo x.ep x.si 1 ct) (stE x.mo x.ep x.si 1 ct) (ct)) a1 c1 a2 c2 a3 c3) : Array Value).size = 16 from rfl)
    have hst := Bo.store (P := Tryz.prog) (b := 0) ((ndV (zX (nwN x.ni) (stM x.mo x.ep x.si 1 ct) (stE x.mo x.ep x.si 1 ct) (stS x.mo x.ep x.si 1 ct) (stE x.mo x.ep x.si 1 ct) (ct)) a1 c1 a2 c2 a3 c3).toList) 0 0 R rfl hUl (ndV_one _ _ _ _ _ _ _)
    have hb : Btw (w.heap.size + 1) (w.heap.size + 1 + 1) v5 _ := putA_btw ((ndV (zX (nwN x.ni) (stM x.mo x.ep x.si 1 ct) (stE x.mo x.ep x.si 1 ct) (stS x.mo x.ep x.si 1 ct) (stE x.mo x.ep x.si 1 ct) (ct)) a1 c1 a2 c2 a3 c3).toList) v5 0 (w.heap.size + 1)
    have B1 := putA_below (k := w.heap.size + 1) ((ndV (zX (nwN x.ni) (stM x.mo x.ep x.si 1 ct) (stE x.mo x.ep x.si 1 ct) (stS x.mo x.ep x.si 1 ct) (stE x.mo x.ep x.si 1 ct) (ct)) a1 c1 a2 c2 a3 c3).toList) w v5 0 B (by omega)
    have N1 := R.putW (U := (ndV (zX (nwN x.ni) (stM x.mo x.ep x.si 1 ct) (stE x.mo x.ep x.si 1 ct) (stS x.mo x.ep x.si 1 ct) (stE x.mo x.ep x.si 1 ct) (ct)) a1 c1 a2 c2 a3 c3)) hU
    go_wp2_with (first | rw [hL0] | rw [hst])
    clear hst hL0 R B
    replace N := N.btw hb (by omega)
    replace Q := Q.btw hb (by omega)
    replace P1 := P1.btw hb (by omega)
    replace P2 := P2.btw hb (by omega)
    replace P3 := P3.btw hb (by omega)
    have zv6 := hb.2.2.2.1
    clear hb
    generalize putA v5 (w.heap.size + 1) 0 ((ndV (zX (nwN x.ni) (stM x.mo x.ep x.si 1 ct) (stE x.mo x.ep x.si 1 ct) (stS x.mo x.ep x.si 1 ct) (stE x.mo x.ep x.si 1 ct) (ct)) a1 c1 a2 c2 a3 c3).toList) = v6 at *
    have B := B1
    have R := N1
    clear B1 N1
    have hL0 := R.load (P := Tryz.prog) hU
    exact bodyPost_ret (v := .tuple #[.agg (ndV (zX (nwN x.ni) (stM x.mo x.ep x.si 1 ct) (stE x.mo x.ep x.si 1 ct) (stS x.mo x.ep x.si 1 ct) (stE x.mo x.ep x.si 1 ct) (ct)) a1 c1 a2 c2 a3 c3), .int .i64 0]) (by simp [results, Tryz.results8, go_sem]; rw [hL0]; rfl) rfl ⟨_, rfl, ⟨a1, c1, a2, c2, a3, c3, rfl, hbn, P1.low (by omega), P2.low (by omega), P3.low (by omega)⟩, B⟩
  · skip
    have hF : bootX x ct = (x, 4) := by unfold bootX; simp only [hk, hm, he]
    rw [hF]
    clear hF
    have hfi : fiI (okX x) (cmX x ct) x.mo = 2 := by unfold fiI; rw [hk, hm]
    have hN := HN.size
    have CC := fun (v : World) (h : Below w.heap.size w v) => codeAt_any AN x ct v (HN.below h).weak hwf
    have CD := fun (v : World) (h : Below w.heap.size w v) => isDown_any AN x v (HN.below h).weak
    have CP := fun (hs : x.na ≤ 16 ∧ x.np ≤ 8 ∧ x.nh ≤ 16) (v : World) (h : Below w.heap.size w v) => copiedX AN x v (HN.below h) hs
    have CA := fun (v : World) (h : Below w.heap.size w v) => anewX AN x 1 ct v (HN.below h)
    obtain ⟨aa, ac, pa, pc, ha, hc, rfl, -, -, -, -⟩ := HN
    clear hwf
    have A0 := Below.nw w (.cells (ndV x aa ac pa pc ha hc) 49)
    have A1 := Below.nw (w.alloc (.cells (ndV x aa ac pa pc ha hc) 49)) (.cells #[.int .i64 0, .int .i64 0, .int .i64 0, .int .i64 0, .bool false, .int .i64 0, .int .i64 0, .int .i64 0, .int .i64 0, .int .i64 0, .slice none 0 0, .slice none 0 0, .bool false, .int .i64 0, .slice none 0 0, .int .i64 0] 49)
    have N := (Bo.new w (ndV x aa ac pa pc ha hc) 49).below A1
    have R := Bo.new (w.alloc (.cells (ndV x aa ac pa pc ha hc) 49)) #[.int .i64 0, .int .i64 0, .int .i64 0, .int .i64 0, .bool false, .int .i64 0, .int .i64 0, .int .i64 0, .int .i64 0, .int .i64 0, .slice none 0 0, .slice none 0 0, .bool false, .int .i64 0, .slice none 0 0, .int .i64 0] 49
    have B := A0
    replace B := B.trans (A1.mono B.size)
    simp only [World.size_alloc] at R
    clear A0 A1
    go_enter Tryz.func8, Tryz.ntmps8
    go_upto_region 1 with fail
    generalize ((w.alloc (.cells (ndV x aa ac pa pc ha hc) 49))).alloc (.cells #[.int .i64 0, .int .i64 0, .int .i64 0, .int .i64 0, .bool false, .int .i64 0, .int .i64 0, .int .i64 0, .int .i64 0, .int .i64 0, .slice none 0 0, .slice none 0 0, .bool false, .int .i64 0, .slice none 0 0, .int .i64 0] 49) = v0 at *
    have hL0 := N.load (P := Tryz.prog) hN
    go_wp2_with (rw [hL0])
    refine (CC v0 B).mono ?_
    rintro e v1 ⟨rfl, hb⟩
    clear hL0
    rw [hfi]
    replace B := B.trans (hb.mono B.size)
    replace N := N.below hb
    replace R := R.below hb
    clear hb
    have hL0 := N.load (P := Tryz.prog) hN
    go_wp2_with (rw [hL0])
    refine (CD v1 B).mono ?_
    rintro e v2 ⟨rfl, hb⟩
    clear hL0
    rw [hm]
    replace B := B.trans (hb.mono B.size)
    replace N := N.below hb
    replace R := R.below hb
    clear hb
    have hL0 : v2.cell? ⟨w.heap.size, 2, none⟩ = some (.int .i64 x.ep) := N.cell rfl
    have hL1 := N.load (P := Tryz.prog) hN
    go_wp2_with (rw [hL1])
    refine (CP hsh v2 B).mono ?_
    rintro e v3 ⟨U, rfl, OU, hb⟩
    clear hL0 hL1
    have q1N : w.heap.size < v2.heap.size := N.1
    have q1R : w.heap.size + 1 < v2.heap.size := R.1
    have q1 : w.heap.size ≤ v2.heap.size := B.size
    have zv3 : v2.heap.size ≤ v3.heap.size := hb.size
    replace B := B.trans (hb.mono B.size)
    replace N := N.below hb
    replace R := R.below hb
    clear hb
    have hU := OU.size
    have hUl : 0 + U.toList.length ≤ 16 := by simp [hU]
    have hst := Bo.store (P := Tryz.prog) (b := 0) (U.toList) 0 0 R rfl hUl OU.one
    have hb : Btw (w.heap.size + 1) (w.heap.size + 1 + 1) v3 _ := putA_btw (U.toList) v3 0 (w.heap.size + 1)
    have B1 := putA_below (k := w.heap.size + 1) (U.toList) w v3 0 B (by omega)
    have N1 := R.putW (U := U) hU
    go_wp2_with (rw [hst])
    clear hst  R B
    replace N := N.btw hb (by omega)
    replace OU := OU.btw hb (by omega)
    have zv4 := hb.2.2.2.1
    clear hb
    generalize putA v3 (w.heap.size + 1) 0 (U.toList) = v4 at *
    have B := B1
    have R := N1
    clear B1 N1
    have hL0 := R.load (P := Tryz.prog) hU
    exact bodyPost_ret (v := .tuple #[.agg U, .int .i64 4]) (by simp [results, Tryz.results8, go_sem]; rw [hL0]; rfl) rfl ⟨_, rfl, OU.low (by omega), B⟩
attribute [-go_sem] loadCells storeCells in
set_option maxRecDepth 100000 in
set_option maxHeartbeats 8000000 in
theorem implCrashX (AN : Array Value) (x : NdX) (ct : Int) (w : World) (HN : NdS w AN x) (hwf : wfX x) :
    Calls Tryz.prog 13 #[.agg AN, .int .i64 ct] w fun e w' => ∃ R, e = .returned (.tuple #[.agg R, .int .i64 (crashX x ct).2]) ∧ NdO w' w.heap.size w'.heap.size R (crashX x ct).1 ∧ Below w.heap.size w w' := by
  cases hk : okX x && cmX x ct
  · skip
    have hF : crashX x ct = (zX 0 0 0 0 0 0, 1) := by unfold crashX; simp only [hk]
    rw [hF]
    clear hF
    have hfi : fiI (okX x) (cmX x ct) x.mo = 1 := by unfold fiI; rw [hk]
    have hN := HN.size
    have CC := fun (v : World) (h : Below w.heap.size w v) => codeAt_any AN x ct v (HN.below h).weak hwf
    have CD := fun (v : World) (h : Below w.heap.size w v) => isDown_any AN x v (HN.below h).weak
    have CP := fun (hs : x.na ≤ 16 ∧ x.np ≤ 8 ∧ x.nh ≤ 16) (v : World) (h : Below w.heap.size w v) => copiedX AN x v (HN.below h) hs
    have CA := fun (v : World) (h : Below w.heap.size w v) => anewX AN x 2 ct v (HN.below h)
    obtain ⟨aa, ac, pa, pc, ha, hc, rfl, -, -, -, -⟩ := HN
    clear hwf
    have A0 := Below.nw w (.cells (ndV x aa ac pa pc ha hc) 49)
    have A1 := Below.nw (w.alloc (.cells (ndV x aa ac pa pc ha hc) 49)) (.cells #[.int .i64 0, .int .i64 0, .int .i64 0, .int .i64 0, .bool false, .int .i64 0, .int .i64 0, .int .i64 0, .int .i64 0, .int .i64 0, .slice none 0 0, .slice none 0 0, .bool false, .int .i64 0, .slice none 0 0, .int .i64 0] 49)
    have N := (Bo.new w (ndV x aa ac pa pc ha hc) 49).below A1
    have R := Bo.new (w.alloc (.cells (ndV x aa ac pa pc ha hc) 49)) #[.int .i64 0, .int .i64 0, .int .i64 0, .int .i64 0, .bool false, .int .i64 0, .int .i64 0, .int .i64 0, .int .i64 0, .int .i64 0, .slice none 0 0, .slice none 0 0, .bool false, .int .i64 0, .slice none 0 0, .int .i64 0] 49
    have B := A0
    replace B := B.trans (A1.mono B.size)
    simp only [World.size_alloc] at R
    clear A0 A1
    go_enter Tryz.func13, Tryz.ntmps13
    go_upto_region 1 with fail
    generalize ((w.alloc (.cells (ndV x aa ac pa pc ha hc) 49))).alloc (.cells #[.int .i64 0, .int .i64 0, .int .i64 0, .int .i64 0, .bool false, .int .i64 0, .int .i64 0, .int .i64 0, .int .i64 0, .int .i64 0, .slice none 0 0, .slice none 0 0, .bool false, .int .i64 0, .slice none 0 0, .int .i64 0] 49) = v0 at *
    have hL0 := N.load (P := Tryz.prog) hN
    go_wp2_with (rw [hL0])
    refine (CC v0 B).mono ?_
    rintro e v1 ⟨rfl, hb⟩
    clear hL0
    rw [hfi]
    replace B := B.trans (hb.mono B.size)
    replace N := N.below hb
    replace R := R.below hb
    clear hb
    have hU : (ndV (zX 0 0 0 0 0 0) none 0 none 0 none 0).size = 16 := rfl
    have hUl : 0 + (ndV (zX 0 0 0 0 0 0) none 0 none 0 none 0).toList.length ≤ 16 := by simp [hU]
    have hst : (storeCells ⟨w.heap.size + 1, 0, none⟩ [.int .i64 0, .int .i64 0, .int .i64 0, .int .i64 0, .bool false, .int .i64 0, .int .i64 0, .int .i64 0, .int .i64 0, .int .i64 0, .slice none 0 0, .slice none 0 0, .bool false, .int .i64 0, .slice none 0 0, .int .i64 0] 0).run Tryz.prog v1 = .ok () (putA v1 (w.heap.size + 1) 0 ((ndV (zX 0 0 0 0 0 0) none 0 none 0 none 0).toList)) := Bo.store (P := Tryz.prog) (b := 0) ((ndV (zX 0 0 0 0 0 0) none 0 none 0 none 0).toList) 0 0 R rfl hUl (ndV_one _ _ _ _ _ _ _)
    have hb : Btw (w.heap.size + 1) (w.heap.size + 1 + 1) v1 _ := putA_btw ((ndV (zX 0 0 0 0 0 0) none 0 none 0 none 0).toList) v1 0 (w.heap.size + 1)
    have B1 := putA_below (k := w.heap.size + 1) ((ndV (zX 0 0 0 0 0 0) none 0 none 0 none 0).toList) w v1 0 B (by omega)
    have N1 := R.putW (U := (ndV (zX 0 0 0 0 0 0) none 0 none 0 none 0)) hU
    go_wp2_with (rw [hst])
    clear hst  R B
    replace N := N.btw hb (by omega)
    clear hb
    generalize putA v1 (w.heap.size + 1) 0 ((ndV (zX 0 0 0 0 0 0) none 0 none 0 none 0).toList) = v2 at *
    have B := B1
    have R := N1
    clear B1 N1
    have hL0 := R.load (P := Tryz.prog) hU
    exact bodyPost_ret (v := .tuple #[.agg (ndV (zX 0 0 0 0 0 0) none 0 none 0 none 0), .int .i64 1]) (by simp [results, Tryz.results13, go_sem]; rw [hL0]; rfl) rfl ⟨_, rfl, zX_own 0 0 0 0 0 0 _ _ _, B⟩
  have hsh := okX_short (x := x) (by simp only [Bool.and_eq_true] at hk; exact hk.1)
  cases hm : x.mo == 0
  · skip
    have hF : crashX x ct = (zX (nwN x.ni) (stM x.mo x.ep x.si 2 ct) (stE x.mo x.ep x.si 2 ct) (stS x.mo x.ep x.si 2 ct) (stE x.mo x.ep x.si 2 ct) (nwS x.ni), 0) := by unfold crashX; simp only [hk, hm]
    rw [hF]
    clear hF
    have hfi : fiI (okX x) (cmX x ct) x.mo = 0 := by unfold fiI; rw [hk, hm]
    have hN := HN.size
    have CC := fun (v : World) (h : Below w.heap.size w v) => codeAt_any AN x ct v (HN.below h).weak hwf
    have CD := fun (v : World) (h : Below w.heap.size w v) => isDown_any AN x v (HN.below h).weak
    have CP := fun (hs : x.na ≤ 16 ∧ x.np ≤ 8 ∧ x.nh ≤ 16) (v : World) (h : Below w.heap.size w v) => copiedX AN x v (HN.below h) hs
    have CA := fun (v : World) (h : Below w.heap.size w v) => anewX AN x 2 ct v (HN.below h)
    obtain ⟨aa, ac, pa, pc, ha, hc, rfl, -, -, -, -⟩ := HN
    clear hwf
    have A0 := Below.nw w (.cells (ndV x aa ac pa pc ha hc) 49)
    have A1 := Below.nw (w.alloc (.cells (ndV x aa ac pa pc ha hc) 49)) (.cells #[.int .i64 0, .int .i64 0, .int .i64 0, .int .i64 0, .bool false, .int .i64 0, .int .i64 0, .int .i64 0, .int .i64 0, .int .i64 0, .slice none 0 0, .slice none 0 0, .bool false, .int .i64 0, .slice none 0 0, .int .i64 0] 49)
    have N := (Bo.new w (ndV x aa ac pa pc ha hc) 49).below A1
    have R := Bo.new (w.alloc (.cells (ndV x aa ac pa pc ha hc) 49)) #[.int .i64 0, .int .i64 0, .int .i64 0, .int .i64 0, .bool false, .int .i64 0, .int .i64 0, .int .i64 0, .int .i64 0, .int .i64 0, .slice none 0 0, .slice none 0 0, .bool false, .int .i64 0, .slice none 0 0, .int .i64 0] 49
    have B := A0
    replace B := B.trans (A1.mono B.size)
    simp only [World.size_alloc] at R
    clear A0 A1
    go_enter Tryz.func13, Tryz.ntmps13
    go_upto_region 1 with fail
    generalize ((w.alloc (.cells (ndV x aa ac pa pc ha hc) 49))).alloc (.cells #[.int .i64 0, .int .i64 0, .int .i64 0, .int .i64 0, .bool false, .int .i64 0, .int .i64 0, .int .i64 0, .int .i64 0, .int .i64 0, .slice none 0 0, .slice none 0 0, .bool false, .int .i64 0, .slice none 0 0, .int .i64 0] 49) = v0 at *
    have hL0 := N.load (P := Tryz.prog) hN
    go_wp2_with (rw [hL0])
    refine (CC v0 B).mono ?_
    rintro e v1 ⟨rfl, hb⟩
    clear hL0
    rw [hfi]
    replace B := B.trans (hb.mono B.size)
    replace N := N.below hb
    replace R := R.below hb
    clear hb
    have hL0 := N.load (P := Tryz.prog) hN
    go_wp2_with (rw [hL0])
    refine (CA v1 B).mono ?_
    rintro e v2 ⟨U, rfl, OU, hb⟩
    clear hL0
    have q1N : w.heap.size < v1.heap.size := N.1
    have q1R : w.heap.size + 1 < v1.heap.size := R.1
    have q1 : w.heap.size ≤ v1.heap.size := B.size
    have zv2 : v1.heap.size ≤ v2.heap.size := hb.size
    replace B := B.trans (hb.mono B.size)
    replace N := N.below hb
    replace R := R.below hb
    clear hb
    have hU := OU.size
    have hUl : 0 + U.toList.length ≤ 16 := by simp [hU]
    have hst := Bo.store (P := Tryz.prog) (b := 0) (U.toList) 0 0 R rfl hUl OU.one
    have hb : Btw (w.heap.size + 1) (w.heap.size + 1 + 1) v2 _ := putA_btw (U.toList) v2 0 (w.heap.size + 1)
    have B1 := putA_below (k := w.heap.size + 1) (U.toList) w v2 0 B (by omega)
    have N1 := R.putW (U := U) hU
    go_wp2_with (rw [hst])
    clear hst  R B
    replace N := N.btw hb (by omega)
    replace OU := OU.btw hb (by omega)
    have zv3 := hb.2.2.2.1
    clear hb
    generalize putA v2 (w.heap.size + 1) 0 (U.toList) = v3 at *
    have B := B1
    have R := N1
    clear B1 N1
    have hL0 := R.load (P := Tryz.prog) hU
    exact bodyPost_ret (v := .tuple #[.agg U, .int .i64 0]) (by simp [results, Tryz.results13, go_sem]; rw [hL0]; rfl) rfl ⟨_, rfl, OU.low (by omega), B⟩
  · skip
    have hF : crashX x ct = (x, 2) := by unfold crashX; simp only [hk, hm]
    rw [hF]
    clear hF
    have hfi : fiI (okX x) (cmX x ct) x.mo = 2 := by unfold fiI; rw [hk, hm]
    have hN := HN.size
    have CC := fun (v : World) (h : Below w.heap.size w v) => codeAt_any AN x ct v (HN.below h).weak hwf
    have CD := fun (v : World) (h : Below w.heap.size w v) => isDown_any AN x v (HN.below h).weak
    have CP := fun (hs : x.na ≤ 16 ∧ x.np ≤ 8 ∧ x.nh ≤ 16) (v : World) (h : Below w.heap.size w v) => copiedX AN x v (HN.below h) hs
    have CA := fun (v : World) (h : Below w.heap.size w v) => anewX AN x 2 ct v (HN.below h)
    obtain ⟨aa, ac, pa, pc, ha, hc, rfl, -, -, -, -⟩ := HN
    clear hwf
    have A0 := Below.nw w (.cells (ndV x aa ac pa pc ha hc) 49)
    have A1 := Below.nw (w.alloc (.cells (ndV x aa ac pa pc ha hc) 49)) (.cells #[.int .i64 0, .int .i64 0, .int .i64 0, .int .i64 0, .bool false, .int .i64 0, .int .i64 0, .int .i64 0, .int .i64 0, .int .i64 0, .slice none 0 0, .slice none 0 0, .bool false, .int .i64 0, .slice none 0 0, .int .i64 0] 49)
    have N := (Bo.new w (ndV x aa ac pa pc ha hc) 49).below A1
    have R := Bo.new (w.alloc (.cells (ndV x aa ac pa pc ha hc) 49)) #[.int .i64 0, .int .i64 0, .int .i64 0, .int .i64 0, .bool false, .int .i64 0, .int .i64 0, .int .i64 0, .int .i64 0, .int .i64 0, .slice none 0 0, .slice none 0 0, .bool false, .int .i64 0, .slice none 0 0, .int .i64 0] 49
    have B := A0
    replace B := B.trans (A1.mono B.size)
    simp only [World.size_alloc] at R
    clear A0 A1
    go_enter Tryz.func13, Tryz.ntmps13
    go_upto_region 1 with fail
    generalize ((w.alloc (.cells (ndV x aa ac pa pc ha hc) 49))).alloc (.cells #[.int .i64 0, .int .i64 0, .int .i64 0, .int .i64 0, .bool false, .int .i64 0, .int .i64 0, .int .i64 0, .int .i64 0, .int .i64 0, .slice none 0 0, .slice none 0 0, .bool false, .int .i64 0, .slice none 0 0, .int .i64 0] 49) = v0 at *
    have hL0 := N.load (P := Tryz.prog) hN
    go_wp2_with (rw [hL0])
    refine (CC v0 B).mono ?_
    rintro e v1 ⟨rfl, hb⟩
    clear hL0
    rw [hfi]
    replace B := B.trans (hb.mono B.size)
    replace N := N.below hb
    replace R := R.below hb
    clear hb
    have hL0 := N.load (P := Tryz.prog) hN
    go_wp2_with (rw [hL0])
    refine (CP hsh v1 B).mono ?_
    rintro e v2 ⟨U, rfl, OU, hb⟩
    clear hL0
    have q1N : w.heap.size < v1.heap.size := N.1
    have q1R : w.heap.size + 1 < v1.heap.size := R.1
    have q1 : w.heap.size ≤ v1.heap.size := B.size
    have zv2 : v1.heap.size ≤ v2.heap.size := hb.size
    replace B := B.trans (hb.mono B.size)
    replace N := N.below hb
    replace R := R.below hb
    clear hb
    have hU := OU.size
    have hUl : 0 + U.toList.length ≤ 16 := by simp [hU]
    have hst := Bo.store (P := Tryz.prog) (b := 0) (U.toList) 0 0 R rfl hUl OU.one
    have hb : Btw (w.heap.size + 1) (w.heap.size + 1 + 1) v2 _ := putA_btw (U.toList) v2 0 (w.heap.size + 1)
    have B1 := putA_below (k := w.heap.size + 1) (U.toList) w v2 0 B (by omega)
    have N1 := R.putW (U := U) hU
    go_wp2_with (rw [hst])
    clear hst  R B
    replace N := N.btw hb (by omega)
    replace OU := OU.btw hb (by omega)
    have zv3 := hb.2.2.2.1
    clear hb
    generalize putA v2 (w.heap.size + 1) 0 (U.toList) = v3 at *
    have B := B1
    have R := N1
    clear B1 N1
    have hL0 := R.load (P := Tryz.prog) hU
    exact bodyPost_ret (v := .tuple #[.agg U, .int .i64 2]) (by simp [results, Tryz.results13, go_sem]; rw [hL0]; rfl) rfl ⟨_, rfl, OU.low (by omega), B⟩
end Go.Proofs.YtlllbahfjihepaaGreat
