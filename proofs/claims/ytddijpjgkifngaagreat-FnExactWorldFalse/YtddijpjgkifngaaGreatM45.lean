/- Contracts of the functions of chapter 1 (intervals) in the specification and in the program, and the walks of its first exact laws. An append of one element to a row of ones own. NodeRead and NodeTrue (the specification), over arrays of cells. NodeNow, NodeTrue, NodeRead, NodeFix (the program), over arrays of cells. Which nodes are false: the specification, the program. -/
import Derived.Test.YtddijpjgkifngaaGreatM0
import Derived.Test.YtddijpjgkifngaaGreatM42
import Derived.Test.YtddijpjgkifngaaGreatM44
namespace Go.Proofs.YtddijpjgkifngaaGreat
open Go.RowKit
set_option linter.unusedVariables false
def holdsI (lo hi t : Int) : Bool := okI lo hi && decide (lo ≤ t ∧ t ≤ hi)
theorem holdsI_f {lo hi t : Int} (h : okI lo hi = false) : holdsI lo hi t = false := by simp [holdsI, h]
set_option maxHeartbeats 400000 in
theorem specHolds_any (lo hi t : Int) (w : World) :
 Calls Tryz.prog 129 #[.agg #[.int .i64 lo, .int .i64 hi], .int .i64 t] w fun e w' => e = .returned (.bool (holdsI lo hi t)) ∧ Below w.heap.size w w' := by
 cases h : okI lo hi
 ·rw [holdsI_f h]
  go_enter Tryz.func129, Tryz.ntmps129
  go_wp2_with (first | (go_at_call 137; refine (specIvalOk_any _ _ _).mono ?_; rintro e w' ⟨rfl, hb⟩; obtain ⟨hc, hf⟩ := bcell hb; have hz := hb.size; (try simp at hz); (try (have hz0 : w.heap.size < w'.heap.size := by omega)); (try (have hz1 : w.heap.size + 1 < w'.heap.size := by omega)); (try (have hz2 : w.heap.size + 1 + 1 < w'.heap.size := by omega)); (try (have hz3 : w.heap.size + 1 + 1 + 1 < w'.heap.size := by omega))) | go_in)
  go_ret
  exact ⟨rfl, by repeat (first | exact Below.refl _ _ | refine Below.drew ?_ | refine Below.alloc ?_ (by first | (simp; done) | (simp; omega) | omega) _ | refine Below.setCell ?_ (by first | (simp; done) | (simp; omega) | omega) _ | refine Below.trans ?_ (Below.mono (by assumption) (by first | (simp; done) | (simp; omega) | omega)))⟩
 ·go_enter Tryz.func129, Tryz.ntmps129
  go_wp2_with (first | (go_at_call 137; refine (specIvalOk_any _ _ _).mono ?_; rintro e w' ⟨rfl, hb⟩; obtain ⟨hc, hf⟩ := bcell hb; have hz := hb.size; (try simp at hz); (try (have hz0 : w.heap.size < w'.heap.size := by omega)); (try (have hz1 : w.heap.size + 1 < w'.heap.size := by omega)); (try (have hz2 : w.heap.size + 1 + 1 < w'.heap.size := by omega)); (try (have hz3 : w.heap.size + 1 + 1 + 1 < w'.heap.size := by omega))) | go_in)
  all_goals go_ret
  all_goals exact ⟨ret_bool (by rw [Bool.eq_iff_iff]; simp [holdsI, h]; try omega), by repeat (first | exact Below.refl _ _ | refine Below.drew ?_ | refine Below.alloc ?_ (by first | (simp; done) | (simp; omega) | omega) _ | refine Below.setCell ?_ (by first | (simp; done) | (simp; omega) | omega) _ | refine Below.trans ?_ (Below.mono (by assumption) (by first | (simp; done) | (simp; omega) | omega)))⟩
set_option maxHeartbeats 400000 in
theorem implHolds_any (lo hi t : Int) (w : World) :
 Calls Tryz.prog 131 #[.agg #[.int .i64 lo, .int .i64 hi], .int .i64 t] w fun e w' => e = .returned (.bool (holdsI lo hi t)) ∧ Below w.heap.size w w' := by
 cases h : okI lo hi
 ·rw [holdsI_f h]
  go_enter Tryz.func131, Tryz.ntmps131
  go_wp2_with (first | (go_at_call 170; refine (ok_any _ _ _).mono ?_; rintro e w' ⟨rfl, hb⟩; obtain ⟨hc, hf⟩ := bcell hb; have hz := hb.size; (try simp at hz); (try (have hz0 : w.heap.size < w'.heap.size := by omega)); (try (have hz1 : w.heap.size + 1 < w'.heap.size := by omega)); (try (have hz2 : w.heap.size + 1 + 1 < w'.heap.size := by omega)); (try (have hz3 : w.heap.size + 1 + 1 + 1 < w'.heap.size := by omega))) | go_in)
  go_ret
  exact ⟨rfl, by repeat (first | exact Below.refl _ _ | refine Below.drew ?_ | refine Below.alloc ?_ (by first | (simp; done) | (simp; omega) | omega) _ | refine Below.setCell ?_ (by first | (simp; done) | (simp; omega) | omega) _ | refine Below.trans ?_ (Below.mono (by assumption) (by first | (simp; done) | (simp; omega) | omega)))⟩
 ·go_enter Tryz.func131, Tryz.ntmps131
  go_wp2_with (first | (go_at_call 170; refine (ok_any _ _ _).mono ?_; rintro e w' ⟨rfl, hb⟩; obtain ⟨hc, hf⟩ := bcell hb; have hz := hb.size; (try simp at hz); (try (have hz0 : w.heap.size < w'.heap.size := by omega)); (try (have hz1 : w.heap.size + 1 < w'.heap.size := by omega)); (try (have hz2 : w.heap.size + 1 + 1 < w'.heap.size := by omega)); (try (have hz3 : w.heap.size + 1 + 1 + 1 < w'.heap.size := by omega))) | go_in)
  all_goals go_ret
  all_goals exact ⟨ret_bool (by rw [Bool.eq_iff_iff]; simp [holdsI, h]; try omega), by repeat (first | exact Below.refl _ _ | refine Below.drew ?_ | refine Below.alloc ?_ (by first | (simp; done) | (simp; omega) | omega) _ | refine Below.setCell ?_ (by first | (simp; done) | (simp; omega) | omega) _ | refine Below.trans ?_ (Below.mono (by assumption) (by first | (simp; done) | (simp; omega) | omega)))⟩
end Go.Proofs.YtddijpjgkifngaaGreat
namespace Go.Proofs.YtddijpjgkifngaaGreat
open Go.RowKit
set_option linter.unusedVariables false
theorem made_int (w : World) : (w.alloc (.cells #[] 3)).ownsRow w.heap.size 3 1 (.slice (some ⟨w.heap.size, 0, none⟩) 0 0) ([] : List Int).length (irow []) := World.ownsRow_made w #[] 0 (Nat.le_refl _) (by simp [maxLen]) (by simp)
theorem nil_int (w : World) (B : Nat) : w.ownsRow B 3 1 (.slice none 0 0) ([] : List Int).length (irow []) := World.ownsRow_nil w B 3 1
end Go.Proofs.YtddijpjgkifngaaGreat
namespace Go.Proofs.YtddijpjgkifngaaGreat
open Go.RowKit
set_option linter.unusedVariables false
def trueX (y : CfX) (x : NdX) (ct xt : Int) : Bool := match nowC y x ct != 0 with | true => true | false => holdsI (nowL y x ct) (nowH y x ct) xt
attribute [-go_sem] loadCells storeCells in
set_option maxRecDepth 100000 in
set_option maxHeartbeats 8000000 in
theorem specTrueX (AC AN : Array Value) (y : CfX) (x : NdX) (ct xt : Int) (w : World) (HC : CfS w AC y) (HN : NdS w AN x) :
 Calls Tryz.prog 74 #[.agg AC, .agg AN, .int .i64 ct, .int .i64 xt] w fun e w' => e = .returned (.bool (trueX y x ct xt)) ∧ Below w.heap.size w w' := by
 unfold trueX
 cases h4 : nowC y x ct != 0
 ·skip
  have CNO := fun (v : World) (h : Below w.heap.size w v) => specNowX AC AN y x ct v (HC.below h) (HN.below h)
  have CHO := fun v => specHolds_any (nowL y x ct) (nowH y x ct) xt v
  obtain ⟨p, d, rfl, -, -⟩ := HC
  obtain ⟨aa, ac, pa, pc, ha, hc, rfl, -, -, -, -⟩ := HN
  have A0 := Below.nw w (.cells (cfV y p d) 45)
  have A1 := Below.nw (w.alloc (.cells (cfV y p d) 45)) (.cells (ndV x aa ac pa pc ha hc) 98)
  have C := (Bo.new w (cfV y p d) 45).below A1
  have N := Bo.new (w.alloc (.cells (cfV y p d) 45)) (ndV x aa ac pa pc ha hc) 98
  have B := A0
  replace B := B.trans (A1.mono B.size)
  simp only [World.size_alloc] at N
  clear A0 A1
  go_enter Tryz.func74, Tryz.ntmps74
  go_upto_region 1 with fail
  generalize ((w.alloc (.cells (cfV y p d) 45))).alloc (.cells (ndV x aa ac pa pc ha hc) 98) = v0 at *
  have hL0 := C.load (P := Tryz.prog) (show ((cfV y p d) : Array Value).size = 11 from rfl)
  have hL1 := N.load (P := Tryz.prog) (show ((ndV x aa ac pa pc ha hc) : Array Value).size = 16 from rfl)
  go_wp2_with (first | rw [hL0] | rw [hL1])
  refine (CNO v0 B).mono ?_
  rintro e v1 ⟨rfl, hb⟩
  clear hL0 hL1
  replace B := B.trans (hb.mono B.size)
  replace C := C.below hb
  replace N := N.below hb
  clear hb
  have hst := storeNew (P := Tryz.prog) v1 (#[.int .i64 0, .int .i64 0]) (#[.int .i64 (nowL y x ct), .int .i64 (nowH y x ct)]) 87 rfl (List.forall_mem_cons.2 ⟨rfl, (List.forall_mem_cons.2 ⟨rfl, fun _ h => nomatch h⟩)⟩)
  have gQC : w.heap.size < v1.heap.size := C.1
  have gQN : w.heap.size + 1 < v1.heap.size := N.1
  have hb := Below.nw v1 (.cells #[.int .i64 (nowL y x ct), .int .i64 (nowH y x ct)] 87)
  have Q := Bo.new v1 #[.int .i64 (nowL y x ct), .int .i64 (nowH y x ct)] 87
  go_upto_region 2 with (rw [hst])
  clear hst
  replace B := B.trans (hb.mono B.size)
  replace C := C.below hb
  replace N := N.below hb
  clear hb
  generalize v1.alloc (.cells #[.int .i64 (nowL y x ct), .int .i64 (nowH y x ct)] 87) = v2 at *
  generalize v1.heap.size = kQ at *
  have hL0 := Q.load (P := Tryz.prog) (show (#[.int .i64 (nowL y x ct), .int .i64 (nowH y x ct)] : Array Value).size = 2 from rfl)
  go_wp2_with (rw [hL0])
  refine (CHO _).mono ?_
  rintro e vh ⟨rfl, hh⟩
  have hb : Below v2.heap.size v2 vh := by first | exact hh | exact hh ▸ Below.refl _ _
  clear hL0 hh
  replace B := B.trans (hb.mono B.size)
  go_wp2_with fail
  go_ret
  exact ⟨rfl, B⟩
 ·skip
  have CNO := fun (v : World) (h : Below w.heap.size w v) => specNowX AC AN y x ct v (HC.below h) (HN.below h)
  have CHO := fun v => specHolds_any (nowL y x ct) (nowH y x ct) xt v
  obtain ⟨p, d, rfl, -, -⟩ := HC
  obtain ⟨aa, ac, pa, pc, ha, hc, rfl, -, -, -, -⟩ := HN
  have A0 := Below.nw w (.cells (cfV y p d) 45)
  have A1 := Below.nw (w.alloc (.cells (cfV y p d) 45)) (.cells (ndV x aa ac pa pc ha hc) 98)
  have C := (Bo.new w (cfV y p d) 45).below A1
  have N := Bo.new (w.alloc (.cells (cfV y p d) 45)) (ndV x aa ac pa pc ha hc) 98
  have B := A0
  replace B := B.trans (A1.mono B.size)
  simp only [World.size_alloc] at N
  clear A0 A1
  go_enter Tryz.func74, Tryz.ntmps74
  go_upto_region 1 with fail
  generalize ((w.alloc (.cells (cfV y p d) 45))).alloc (.cells (ndV x aa ac pa pc ha hc) 98) = v0 at *
  have hL0 := C.load (P := Tryz.prog) (show ((cfV y p d) : Array Value).size = 11 from rfl)
  have hL1 := N.load (P := Tryz.prog) (show ((ndV x aa ac pa pc ha hc) : Array Value).size = 16 from rfl)
  go_wp2_with (first | rw [hL0] | rw [hL1])
  refine (CNO v0 B).mono ?_
  rintro e v1 ⟨rfl, hb⟩
  clear hL0 hL1
  replace B := B.trans (hb.mono B.size)
  replace C := C.below hb
  replace N := N.below hb
  clear hb
  have hst := storeNew (P := Tryz.prog) v1 (#[.int .i64 0, .int .i64 0]) (#[.int .i64 (nowL y x ct), .int .i64 (nowH y x ct)]) 87 rfl (List.forall_mem_cons.2 ⟨rfl, (List.forall_mem_cons.2 ⟨rfl, fun _ h => nomatch h⟩)⟩)
  have gQC : w.heap.size < v1.heap.size := C.1
  have gQN : w.heap.size + 1 < v1.heap.size := N.1
  have hb := Below.nw v1 (.cells #[.int .i64 (nowL y x ct), .int .i64 (nowH y x ct)] 87)
  have Q := Bo.new v1 #[.int .i64 (nowL y x ct), .int .i64 (nowH y x ct)] 87
  go_upto_region 2 with (rw [hst])
  clear hst
  replace B := B.trans (hb.mono B.size)
  replace C := C.below hb
  replace N := N.below hb
  clear hb
  generalize v1.alloc (.cells #[.int .i64 (nowL y x ct), .int .i64 (nowH y x ct)] 87) = v2 at *
  generalize v1.heap.size = kQ at *
  go_wp2_with fail
  go_ret
  exact ⟨rfl, B⟩
end Go.Proofs.YtddijpjgkifngaaGreat
namespace Go.Proofs.YtddijpjgkifngaaGreat
open Go.RowKit
set_option linter.unusedVariables false
attribute [-go_sem] loadCells storeCells in
set_option maxRecDepth 100000 in
set_option maxHeartbeats 8000000 in
theorem implTrueX (AC AN : Array Value) (y : CfX) (x : NdX) (ct xt : Int) (w : World) (HC : CfS w AC y) (HN : NdS w AN x) (hwf : wfX x) :
 Calls Tryz.prog 75 #[.agg AC, .agg AN, .int .i64 ct, .int .i64 xt] w fun e w' => e = .returned (.bool (trueX y x ct xt)) ∧ Below w.heap.size w w' := by
 unfold trueX
 cases h4 : nowC y x ct != 0
 ·skip
  have hC := HC.size
  have hN := HN.size
  have CNO := fun (v : World) (h : Below w.heap.size w v) => implNowX AC AN y x ct v (HC.below h) (HN.below h) hwf
  have CHO := fun v => implHolds_any (nowL y x ct) (nowH y x ct) xt v
  clear HC HN hwf
  have A0 := Below.nw w (.cells AC 45)
  have A1 := Below.nw (w.alloc (.cells AC 45)) (.cells AN 98)
  have C := (Bo.new w AC 45).below A1
  have N := Bo.new (w.alloc (.cells AC 45)) AN 98
  have B := A0
  replace B := B.trans (A1.mono B.size)
  simp only [World.size_alloc] at N
  clear A0 A1
  go_enter Tryz.func75, Tryz.ntmps75
  go_upto_region 1 with fail
  generalize ((w.alloc (.cells AC 45))).alloc (.cells AN 98) = v0 at *
  have hL0 := C.load (P := Tryz.prog) hC
  have hL1 := N.load (P := Tryz.prog) hN
  go_wp2_with (first | rw [hL0] | rw [hL1])
  refine (CNO v0 B).mono ?_
  rintro e v1 ⟨rfl, hb⟩
  clear hL0 hL1
  replace B := B.trans (hb.mono B.size)
  replace C := C.below hb
  replace N := N.below hb
  clear hb
  have hst := storeNew (P := Tryz.prog) v1 (#[.int .i64 0, .int .i64 0]) (#[.int .i64 (nowL y x ct), .int .i64 (nowH y x ct)]) 87 rfl (List.forall_mem_cons.2 ⟨rfl, (List.forall_mem_cons.2 ⟨rfl, fun _ h => nomatch h⟩)⟩)
  have gQC : w.heap.size < v1.heap.size := C.1
  have gQN : w.heap.size + 1 < v1.heap.size := N.1
  have hb := Below.nw v1 (.cells #[.int .i64 (nowL y x ct), .int .i64 (nowH y x ct)] 87)
  have Q := Bo.new v1 #[.int .i64 (nowL y x ct), .int .i64 (nowH y x ct)] 87
  go_upto_region 2 with (rw [hst])
  clear hst
  replace B := B.trans (hb.mono B.size)
  replace C := C.below hb
  replace N := N.below hb
  clear hb
  generalize v1.alloc (.cells #[.int .i64 (nowL y x ct), .int .i64 (nowH y x ct)] 87) = v2 at *
  generalize v1.heap.size = kQ at *
  have hL0 := Q.load (P := Tryz.prog) (show (#[.int .i64 (nowL y x ct), .int .i64 (nowH y x ct)] : Array Value).size = 2 from rfl)
  go_wp2_with (rw [hL0])
  refine (CHO _).mono ?_
  rintro e vh ⟨rfl, hh⟩
  have hb : Below v2.heap.size v2 vh := by first | exact hh | exact hh ▸ Below.refl _ _
  clear hL0 hh
  replace B := B.trans (hb.mono B.size)
  go_wp2_with fail
  go_ret
  exact ⟨rfl, B⟩
 ·skip
  have hC := HC.size
  have hN := HN.size
  have CNO := fun (v : World) (h : Below w.heap.size w v) => implNowX AC AN y x ct v (HC.below h) (HN.below h) hwf
  have CHO := fun v => implHolds_any (nowL y x ct) (nowH y x ct) xt v
  clear HC HN hwf
  have A0 := Below.nw w (.cells AC 45)
  have A1 := Below.nw (w.alloc (.cells AC 45)) (.cells AN 98)
  have C := (Bo.new w AC 45).below A1
  have N := Bo.new (w.alloc (.cells AC 45)) AN 98
  have B := A0
  replace B := B.trans (A1.mono B.size)
  simp only [World.size_alloc] at N
  clear A0 A1
  go_enter Tryz.func75, Tryz.ntmps75
  go_upto_region 1 with fail
  generalize ((w.alloc (.cells AC 45))).alloc (.cells AN 98) = v0 at *
  have hL0 := C.load (P := Tryz.prog) hC
  have hL1 := N.load (P := Tryz.prog) hN
  go_wp2_with (first | rw [hL0] | rw [hL1])
  refine (CNO v0 B).mono ?_
  rintro e v1 ⟨rfl, hb⟩
  clear hL0 hL1
  replace B := B.trans (hb.mono B.size)
  replace C := C.below hb
  replace N := N.below hb
  clear hb
  have hst := storeNew (P := Tryz.prog) v1 (#[.int .i64 0, .int .i64 0]) (#[.int .i64 (nowL y x ct), .int .i64 (nowH y x ct)]) 87 rfl (List.forall_mem_cons.2 ⟨rfl, (List.forall_mem_cons.2 ⟨rfl, fun _ h => nomatch h⟩)⟩)
  have gQC : w.heap.size < v1.heap.size := C.1
  have gQN : w.heap.size + 1 < v1.heap.size := N.1
  have hb := Below.nw v1 (.cells #[.int .i64 (nowL y x ct), .int .i64 (nowH y x ct)] 87)
  have Q := Bo.new v1 #[.int .i64 (nowL y x ct), .int .i64 (nowH y x ct)] 87
  go_upto_region 2 with (rw [hst])
  clear hst
  replace B := B.trans (hb.mono B.size)
  replace C := C.below hb
  replace N := N.below hb
  clear hb
  generalize v1.alloc (.cells #[.int .i64 (nowL y x ct), .int .i64 (nowH y x ct)] 87) = v2 at *
  generalize v1.heap.size = kQ at *
  go_wp2_with fail
  go_ret
  exact ⟨rfl, B⟩
end Go.Proofs.YtddijpjgkifngaaGreat
namespace Go.Proofs.YtddijpjgkifngaaGreat
open Go.RowKit
set_option linter.unusedVariables false
def fsB (x : WdX) (k : Nat) : Bool := !x.LB k && !trueX x.y (x.XM k) (x.CM k) x.ti
def wfN (x : WdX) : Nat → List Int
 | 0 => []
 | k + 1 => match fsB x k with | true => wfN x k ++ [(k : Int)] | false => wfN x k
theorem wfN_t {x : WdX} {k : Nat} (h : fsB x k = true) : wfN x (k + 1) = wfN x k ++ [(k : Int)] := by rw [wfN, h]
theorem wfN_f {x : WdX} {k : Nat} (h : fsB x k = false) : wfN x (k + 1) = wfN x k := by rw [wfN, h]
theorem wfN_len (x : WdX) : ∀ k, (wfN x k).length ≤ k
 | 0 => Nat.le_refl _
 | k + 1 => by
  have h := wfN_len x k
  cases q : fsB x k
  ·rw [wfN_f q]; omega
  ·rw [wfN_t q, List.length_append]; exact Nat.succ_le_succ h
def wfL (x : WdX) : List Int := match wdOk x with | true => wfN x x.nn | false => []
theorem wfL_t {x : WdX} (h : wdOk x = true) : wfL x = wfN x x.nn := by rw [wfL, h]
theorem wfL_f {x : WdX} (h : wdOk x = false) : wfL x = [] := by rw [wfL, h]
theorem wfL_len (x : WdX) : (wfL x).length ≤ 8 := by
 cases h : wdOk x
 ·rw [wfL_f h]; exact Nat.zero_le _
 ·rw [wfL_t h]; exact Nat.le_trans (wfN_len x _) (wdOk_parts h).2.2.1.2
attribute [-go_sem] loadCells storeCells in
set_option maxRecDepth 100000 in
set_option maxHeartbeats 16000000 in
theorem specWorldFalseW (A : Array Value) (x : WdX) (w : World) (h : WdS w A x) (ht : txW x) :
 Calls Tryz.prog 26 #[.agg A] w fun e w' => ∃ v, e = .returned v ∧ w'.ownsRow w.heap.size 3 1 v (wfL x).length (irow (wfL x)) ∧ Below w.heap.size w w' := by
 have HS := h
 have hmm := h.weak
 have CK := fun (v : World) (hv : Below w.heap.size w v) => specWorldOkW A x v (HS.below hv).weak ht
 have HT : Hid (wdOk x = true → wfL x = wfN x x.nn) := wfL_t
 have HF : Hid (wdOk x = false → wfL x = []) := wfL_f
 have HI : Hid (wdOk x = true → (1 ≤ x.nn ∧ x.nn ≤ 8) ∧ x.nl = x.nn ∧ x.nc = x.nn) := fun q => by (have r := wdOk_parts q; omega)
 obtain ⟨p, d, la, lc, ca, cc, na, nk, fa, fc, ba, bc, rfl, hm, h1, h2, h3, h4, h5, h6⟩ := h
 clear hmm HS ht h5 h6
 generalize wfL x = X at *
 generalize wdOk x = ok at *
 have A0 := Below.nw w (.cells (wdV x p d la lc ca cc na nk fa fc ba bc) 52)
 have L := Bo.new w (wdV x p d la lc ca cc na nk fa fc ba bc) 52
 have B := A0
 clear A0
 go_enter Tryz.func26, Tryz.ntmps26
 go_upto_region 1 with fail
 generalize w.alloc (.cells (wdV x p d la lc ca cc na nk fa fc ba bc) 52) = v0 at *
 have O := made_int v0
 have hb := Below.nw v0 (.cells #[] 3)
 go_upto_region 2 with fail
 replace O := own_baseW O (show w.heap.size + 1 ≤ v0.heap.size from L.1)
 have hlo : w.heap.size + 1 ≤ (v0.alloc (.cells #[] 3)).heap.size := Nat.le_trans (show w.heap.size + 1 ≤ v0.heap.size from L.1) hb.size
 replace B := B.trans (hb.mono B.size)
 replace L := L.below hb
 clear hb
 generalize v0.alloc (.cells #[] 3) = va at *
 generalize v0.heap.size = ga at *
 have hL0 := L.load (P := Tryz.prog) (show ((wdV x p d la lc ca cc na nk fa fc ba bc) : Array Value).size = 18 from rfl)
 go_wp2_with (rw [hL0])
 refine (CK va B).mono ?_
 rintro e v1 ⟨rfl, hb⟩
 clear hL0 CK
 replace B := B.trans (hb.mono B.size)
 replace L := L.below hb
 replace O := own_belowW O hb
 replace hlo := Nat.le_trans hlo hb.size
 clear hb
 cases ok
 ·have hE := HF.out rfl
  clear HF HT HI h1 h2 h3 h4
  go_wp2_with fail
  go_ret
  exact ⟨_, rfl, by rw [hE]; exact own_baseW O (Nat.le_succ _), B⟩
 have hE := HT.out rfl
 have HE : Hid (X = wfN x x.nn) := hE
 obtain ⟨⟨hn1, hn8⟩, hnl, hnc⟩ := HI.out rfl
 obtain ⟨nb, no, AM, rfl, hcs, hq4⟩ := h4.resolve_left (show ¬ x.nn = 0 by omega)
 obtain ⟨cb, co, rfl, hcc⟩ := h3.resolve_left (show ¬ x.nc = 0 by omega)
 obtain ⟨lb, lo2, rfl, hlb⟩ := h2.resolve_left (show ¬ x.nl = 0 by omega)
 have HC : CfS w (cfV x.y p d) x.y := ⟨p, d, rfl, hm.1, h1⟩
 have HNS : Hid (∀ k, k < x.nn → NdS w (AM k) (x.XM k)) := hq4
 have HCS : Hid (CsN w nb no x.nn AM) := hcs
 have HCC : Hid (Cs w cb co x.nc (itG x.CM)) := hcc
 have HLB : Hid (Cs w lb lo2 x.nl (boG x.LB)) := hlb
 have HCH : Hid (CfS w (cfV x.y p d) x.y) := HC
 clear HC
 have HC := HCH
 clear HCH hE HT HF HI h1 h2 h3 h4 hm hcs hq4 hcc hlb
 go_upto_region 5 with fail
 go_loopw [3, 4] (fun r i wr => ∃ k : Nat, k ≤ x.nn ∧ i = .int .i64 (k : Int) ∧ wr.ownsRow (w.heap.size + 1) 3 1 r (wfN x k).length (irow (wfN x k)) ∧ Bo wr w.heap.size (wdV x p d (some ⟨lb, lo2, none⟩) lc (some ⟨cb, co, none⟩) cc (some ⟨nb, no, none⟩) nk fa fc ba bc) ∧ Below w.heap.size w wr ∧ w.heap.size + 1 ≤ wr.heap.size) (fun _ i _ => x.nn - (intOf i).toNat)
 case atStart => exact ⟨0, Nat.zero_le _, rfl, O, L, B, hlo⟩
 case round =>
  clear L B O hlo
  obtain ⟨k, hk, rfl, O, L, B, hlo⟩ := hrel
  have c14 : wr.cell? ⟨w.heap.size, 14, none⟩ = some (.slice (some ⟨nb, no, none⟩) x.nn nk) := L.cell rfl
  by_cases hlt : k < x.nn
  ·skip
   have hli : (k : Int) < (x.nn : Int) := by omega
   have hl1 : (k : Int) < (x.nl : Int) := by omega
   have hl2 : (k : Int) < (x.nc : Int) := by omega
   have hlen : (wfN x k).length ≤ k := wfN_len x k
   have hsz : (AM k).size = 16 := (HNS.out k hlt).size
   have CT := fun (v : World) (hv : Below w.heap.size w v) => specTrueX (cfV x.y p d) (AM k) x.y (x.XM k) (x.CM k) x.ti v (HC.out.below hv) ((HNS.out k hlt).below hv)
   have HN : Hid (∀ v, Below w.heap.size w v → (loadCells ⟨nb, no + k * 16, none⟩ 16).run Tryz.prog v = .ok (AM k) v) := fun v hv => (HCS.out.below hv).load hlt hsz
   have HK : Hid (∀ v, Below w.heap.size w v → v.cell? ⟨cb, co + k, none⟩ = some (.int .i64 (x.CM k))) := fun v hv => (HCC.out.below hv HCC.out.1).2 k (by omega)
   have HLk : Hid (∀ v, Below w.heap.size w v → v.cell? ⟨lb, lo2 + k, none⟩ = some (.bool (x.LB k))) := fun v hv => (HLB.out.below hv HLB.out.1).2 k (by omega)
   have HRT : Hid (fsB x k = true → wfN x (k + 1) = wfN x k ++ [(k : Int)]) := wfN_t
   have HRF : Hid (fsB x k = false → wfN x (k + 1) = wfN x k) := wfN_f
   have hfs : fsB x k = (!x.LB k && !trueX x.y (x.XM k) (x.CM k) x.ti) := rfl
   rw [hfs] at HRT HRF
   have hAN := hsz
   clear hfs hsz
   generalize trueX x.y (x.XM k) (x.CM k) x.ti = tru at *
   generalize x.LB k = lie at *
   generalize x.CM k = ct at *
   generalize AM k = AN at *
   have hd : decide ((k : Int) < (x.nn : Int)) = true := decide_eq_true hli
   go_upto_region 7 with fail
   clear c14
   have SK : Hid (∀ w', Below wr.heap.size wr w' → (fun w' => w'.cell? ⟨w.heap.size, 11, none⟩ = some (.slice (some ⟨lb, lo2, none⟩) x.nl lc) ∧ w'.cell? ⟨lb, lo2 + k, none⟩ = some (.bool lie) ∧ (loadCells ⟨w.heap.size, 0, none⟩ 11).run Tryz.prog w' = .ok (cfV x.y p d) w' ∧ w'.cell? ⟨w.heap.size, 13, none⟩ = some (.slice (some ⟨cb, co, none⟩) x.nc cc) ∧ w'.cell? ⟨cb, co + k, none⟩ = some (.int .i64 ct) ∧ w'.cell? ⟨w.heap.size, 12, none⟩ = some (.int .i64 x.ti) ∧ w'.cell? ⟨w.heap.size, 14, none⟩ = some (.slice (some ⟨nb, no, none⟩) x.nn nk) ∧ (loadCells ⟨nb, no + k * 16, none⟩ 16).run Tryz.prog w' = .ok AN w') w') := fun w' hw => ⟨(L.below hw).cell rfl, HLk.out _ (B.trans (hw.mono B.size)), (L.below hw).loadAt (P := Tryz.prog) 0 11 (show 0 + 11 ≤ 18 by decide), (L.below hw).cell rfl, HK.out _ (B.trans (hw.mono B.size)), (L.below hw).cell rfl, (L.below hw).cell rfl, HN.out _ (B.trans (hw.mono B.size))⟩
   clear HLk HK HN
   cases lie
   ·refine wp_region_held_drew (S := (fun w' => w'.cell? ⟨w.heap.size, 11, none⟩ = some (.slice (some ⟨lb, lo2, none⟩) x.nl lc) ∧ w'.cell? ⟨lb, lo2 + k, none⟩ = some (.bool false) ∧ (loadCells ⟨w.heap.size, 0, none⟩ 11).run Tryz.prog w' = .ok (cfV x.y p d) w' ∧ w'.cell? ⟨w.heap.size, 13, none⟩ = some (.slice (some ⟨cb, co, none⟩) x.nc cc) ∧ w'.cell? ⟨cb, co + k, none⟩ = some (.int .i64 ct) ∧ w'.cell? ⟨w.heap.size, 12, none⟩ = some (.int .i64 x.ti) ∧ w'.cell? ⟨w.heap.size, 14, none⟩ = some (.slice (some ⟨nb, no, none⟩) x.nn nk) ∧ (loadCells ⟨nb, no + k * 16, none⟩ 16).run Tryz.prog w' = .ok AN w')) (by kernel_rfl) ?_ (fun hHeld => ?_)
    ·first | exact SK.out _ XB | exact SK.out _ (Below.drew (Below.refl _ _))
    have XB : Below wr.heap.size wr wr.drew := Below.drew (Below.refl _ _)
    generalize wr.drew = vx at *
    refine zTk 0 ?_
    refine zTk 1 ?_
    refine zTk 2 ?_
    refine zTk 3 ?_
    refine zTk 4 ?_
    refine zTk 5 ?_
    refine zTk 6 ?_
    refine zTk 7 ?_
    refine zTk 8 ?_
    refine zTk 9 ?_
    refine zTk 10 ?_
    refine zTk 11 ?_
    refine zTk 12 ?_
    refine zTk 13 ?_
    refine zTk 14 ?_
    refine zTk 15 ?_
    refine zTk 16 ?_
    refine zTk 17 ?_
    refine zTk 18 ?_
    refine zTk 19 ?_
    refine zTk 20 ?_
    refine wpAnyH_ready (rs := [21]) (by kernel_rfl) (by simp) ?_
    refine AllReadyH.cons (by rw [List.getElem?_toArray]; rfl) (fun K hK => ?_) AllReadyH.nil
    go_simp
    refine (CT _ (B.trans (XB.mono B.size))).mono ?_; rintro ee vx ⟨rfl, hbl⟩; (replace XB := XB.trans (hbl.mono XB.size)); (clear hbl)
    (try go_wp2_with fail)
    refine hK.out _ _ ?_ (fun hHeld => ?_)
    ·first | exact SK.out _ XB | exact SK.out _ (Below.drew (Below.refl _ _))
    clear hK K
    (try simp only [Act.put, zSb, zS0, zS1])
    refine zTk 22 ?_
    refine zTk 23 ?_
    refine wpAnyH_done (by kernel_rfl) ?_ _
    replace B := B.trans (XB.mono B.size)
    replace L := L.below XB
    replace O := own_belowW O XB
    replace hlo := Nat.le_trans hlo XB.size
    clear SK XB CT
    cases tru
    ·have HR2 : Hid (wfN x (k + 1) = wfN x k ++ [(k : Int)]) := HRT.out rfl
     clear HRF HRT
     go_wp2_with (at_builtin; refine add_int rfl _ _ rfl (w.heap.size + 1) (wfN x k) _ rfl O rfl (by omega) hlo ?_; intro v8 w8 O8 hg8 _)
     have Bg := grown_belowW O hg8 hlo
     replace L := L.belowB Bg (Nat.lt_succ_self _)
     replace B := B.trans (Bg.mono (Nat.le_succ _))
     have hlo2 := Nat.le_trans hlo Bg.size
     have O9 : w8.ownsRow (w.heap.size + 1) 3 1 v8 (wfN x (k + 1)).length (irow (wfN x (k + 1))) := by rw [HR2.out]; exact O8
     clear Bg O O8 hg8 hlo HR2 hlen
     go_wp2_with fail
     go_roundw
     case rel => exact ⟨k + 1, by omega, by go_num, O9, L, B, hlo2⟩
     case measure => simp [intOf]; omega
    ·have HR2 : Hid (wfN x (k + 1) = wfN x k) := HRF.out rfl
     clear HRF HRT
     go_wp2_with fail
     go_roundw
     case rel => exact ⟨k + 1, by omega, by go_num, by rw [HR2.out]; exact O, L, B, hlo⟩
     case measure => simp [intOf]; omega
   ·refine wp_region_held_drew (S := (fun w' => w'.cell? ⟨w.heap.size, 11, none⟩ = some (.slice (some ⟨lb, lo2, none⟩) x.nl lc) ∧ w'.cell? ⟨lb, lo2 + k, none⟩ = some (.bool true) ∧ (loadCells ⟨w.heap.size, 0, none⟩ 11).run Tryz.prog w' = .ok (cfV x.y p d) w' ∧ w'.cell? ⟨w.heap.size, 13, none⟩ = some (.slice (some ⟨cb, co, none⟩) x.nc cc) ∧ w'.cell? ⟨cb, co + k, none⟩ = some (.int .i64 ct) ∧ w'.cell? ⟨w.heap.size, 12, none⟩ = some (.int .i64 x.ti) ∧ w'.cell? ⟨w.heap.size, 14, none⟩ = some (.slice (some ⟨nb, no, none⟩) x.nn nk) ∧ (loadCells ⟨nb, no + k * 16, none⟩ 16).run Tryz.prog w' = .ok AN w')) (by kernel_rfl) ?_ (fun hHeld => ?_)
    ·first | exact SK.out _ XB | exact SK.out _ (Below.drew (Below.refl _ _))
    have XB : Below wr.heap.size wr wr.drew := Below.drew (Below.refl _ _)
    generalize wr.drew = vx at *
    refine zTk 0 ?_
    refine zTk 1 ?_
    refine zTk 2 ?_
    refine zTk 3 ?_
    refine zTk 4 ?_
    refine zTk 5 ?_
    refine zTk 6 ?_
    refine zTn 7 ?_
    refine zTn 8 ?_
    refine zTn 9 ?_
    refine zTn 10 ?_
    refine zTn 11 ?_
    refine zTn 12 ?_
    refine zTn 13 ?_
    refine zTn 14 ?_
    refine zTn 15 ?_
    refine zTn 16 ?_
    refine zTn 17 ?_
    refine zTn 18 ?_
    refine zTn 19 ?_
    refine zTn 20 ?_
    refine zTn 21 ?_
    refine zTn 22 ?_
    refine zTk 23 ?_
    refine wpAnyH_done (by kernel_rfl) ?_ _
    replace B := B.trans (XB.mono B.size)
    replace L := L.below XB
    replace O := own_belowW O XB
    replace hlo := Nat.le_trans hlo XB.size
    clear SK XB CT
    have HR2 : Hid (wfN x (k + 1) = wfN x k) := HRF.out rfl
    clear HRF HRT
    go_wp2_with fail
    go_roundw
    case rel => exact ⟨k + 1, by omega, by go_num, by rw [HR2.out]; exact O, L, B, hlo⟩
    case measure => simp [intOf]; omega
  have hkn : k = x.nn := by omega
  have hli : ¬ (k : Int) < (x.nn : Int) := by omega
  have hd : decide ((k : Int) < (x.nn : Int)) = false := decide_eq_false hli
  rw [hkn] at O
  clear hlt HNS HCS HCC HLB HC
  go_wp2_with fail
  go_ret
  exact ⟨_, rfl, by rw [HE.out]; exact own_baseW O (Nat.le_succ _), B⟩
attribute [-go_sem] loadCells storeCells in
set_option maxRecDepth 100000 in
set_option maxHeartbeats 16000000 in
theorem implWorldFalseW (A : Array Value) (x : WdX) (w : World) (h : WdS w A x) (ht : txW x) (hwf : wfWd x) :
 Calls Tryz.prog 27 #[.agg A] w fun e w' => ∃ v, e = .returned v ∧ w'.ownsRow w.heap.size 3 1 v (wfL x).length (irow (wfL x)) ∧ Below w.heap.size w w' := by
 have HS := h
 have hmm := h.weak
 have CK := fun (v : World) (hv : Below w.heap.size w v) => worldokW A x v (HS.below hv).weak ht hwf
 have HT : Hid (wdOk x = true → wfL x = wfN x x.nn) := wfL_t
 have HF : Hid (wdOk x = false → wfL x = []) := wfL_f
 have HI : Hid (wdOk x = true → (1 ≤ x.nn ∧ x.nn ≤ 8) ∧ x.nl = x.nn ∧ x.nc = x.nn) := fun q => by (have r := wdOk_parts q; omega)
 have HWF : Hid (∀ k, k < x.nn → wfX (x.XM k)) := hwf.1
 obtain ⟨p, d, la, lc, ca, cc, na, nk, fa, fc, ba, bc, rfl, hm, h1, h2, h3, h4, h5, h6⟩ := h
 clear hmm HS ht h5 h6 hwf
 generalize wfL x = X at *
 generalize wdOk x = ok at *
 have A0 := Below.nw w (.cells (wdV x p d la lc ca cc na nk fa fc ba bc) 52)
 have L := Bo.new w (wdV x p d la lc ca cc na nk fa fc ba bc) 52
 have B := A0
 clear A0
 go_enter Tryz.func27, Tryz.ntmps27
 go_upto_region 2 with fail
 generalize w.alloc (.cells (wdV x p d la lc ca cc na nk fa fc ba bc) 52) = v0 at *
 have hL0 := L.load (P := Tryz.prog) (show ((wdV x p d la lc ca cc na nk fa fc ba bc) : Array Value).size = 18 from rfl)
 go_wp2_with (rw [hL0])
 refine (CK v0 B).mono ?_
 rintro e v1 ⟨rfl, hb⟩
 clear hL0
 replace B := B.trans (hb.mono B.size)
 replace L := L.below hb
 clear hb
 cases ok
 ·have hE := HF.out rfl
  clear HF HT HI CK h1 h2 h3 h4 HWF
  go_wp2_with fail
  go_ret
  exact ⟨_, rfl, by rw [hE]; exact nil_int _ _, B⟩
 have hE := HT.out rfl
 have HE : Hid (X = wfN x x.nn) := hE
 obtain ⟨⟨hn1, hn8⟩, hnl, hnc⟩ := HI.out rfl
 obtain ⟨nb, no, AM, rfl, hcs, hq4⟩ := h4.resolve_left (show ¬ x.nn = 0 by omega)
 obtain ⟨cb, co, rfl, hcc⟩ := h3.resolve_left (show ¬ x.nc = 0 by omega)
 obtain ⟨lb, lo2, rfl, hlb⟩ := h2.resolve_left (show ¬ x.nl = 0 by omega)
 have HC : CfS w (cfV x.y p d) x.y := ⟨p, d, rfl, hm.1, h1⟩
 have HNS : Hid (∀ k, k < x.nn → NdS w (AM k) (x.XM k)) := hq4
 have HCS : Hid (CsN w nb no x.nn AM) := hcs
 have HCC : Hid (Cs w cb co x.nc (itG x.CM)) := hcc
 have HLB : Hid (Cs w lb lo2 x.nl (boG x.LB)) := hlb
 have HCH : Hid (CfS w (cfV x.y p d) x.y) := HC
 clear HC
 have HC := HCH
 clear HCH hE HT HF HI CK h1 h2 h3 h4 hm hcs hq4 hcc hlb
 have hL14 : v1.cell? ⟨w.heap.size, 14, none⟩ = some (.slice (some ⟨nb, no, none⟩) x.nn nk) := L.cell rfl
 go_wp2_with fail
 clear hL14
 have hlo : w.heap.size + 1 ≤ v1.heap.size := L.1
 go_loopw [3, 13] (fun r i wr => ∃ k : Nat, k ≤ x.nn ∧ i = .int .i64 (k : Int) ∧ wr.ownsRow (w.heap.size + 1) 3 1 r (wfN x k).length (irow (wfN x k)) ∧ Bo wr w.heap.size (wdV x p d (some ⟨lb, lo2, none⟩) lc (some ⟨cb, co, none⟩) cc (some ⟨nb, no, none⟩) nk fa fc ba bc) ∧ Below w.heap.size w wr ∧ w.heap.size + 1 ≤ wr.heap.size) (fun _ i _ => x.nn - (intOf i).toNat)
 case atStart => exact ⟨0, Nat.zero_le _, rfl, nil_int _ _, L, B, hlo⟩
 case round =>
  clear L B hlo
  obtain ⟨k, hk, rfl, O, L, B, hlo⟩ := hrel
  by_cases hlt : k < x.nn
  ·have hone := (HNS.out k hlt).one
   have hli : (k : Int) < (x.nn : Int) := by omega
   have hl1 : (k : Int) < (x.nl : Int) := by omega
   have hl2 : (k : Int) < (x.nc : Int) := by omega
   have hlen : (wfN x k).length ≤ k := wfN_len x k
   have hsz : (AM k).size = 16 := (HNS.out k hlt).size
   have CT := fun (v : World) (hv : Below w.heap.size w v) => implTrueX (cfV x.y p d) (AM k) x.y (x.XM k) (x.CM k) x.ti v (HC.out.below hv) ((HNS.out k hlt).below hv) (HWF.out k hlt)
   have HN : Hid (∀ v, Below w.heap.size w v → (loadCells ⟨nb, no + k * 16, none⟩ 16).run Tryz.prog v = .ok (AM k) v) := fun v hv => (HCS.out.below hv).load hlt hsz
   have HK : Hid (∀ v, Below w.heap.size w v → v.cell? ⟨cb, co + k, none⟩ = some (.int .i64 (x.CM k))) := fun v hv => (HCC.out.below hv HCC.out.1).2 k (by omega)
   have HLk : Hid (∀ v, Below w.heap.size w v → v.cell? ⟨lb, lo2 + k, none⟩ = some (.bool (x.LB k))) := fun v hv => (HLB.out.below hv HLB.out.1).2 k (by omega)
   have HRT : Hid (fsB x k = true → wfN x (k + 1) = wfN x k ++ [(k : Int)]) := wfN_t
   have HRF : Hid (fsB x k = false → wfN x (k + 1) = wfN x k) := wfN_f
   have hfs : fsB x k = (!x.LB k && !trueX x.y (x.XM k) (x.CM k) x.ti) := rfl
   rw [hfs] at HRT HRF
   have hAN := hsz
   clear hfs hsz
   generalize trueX x.y (x.XM k) (x.CM k) x.ti = tru at *
   generalize x.LB k = lie at *
   generalize x.CM k = ct at *
   generalize AM k = AN at *
   have hLN := HN.out wr B
   have hst := storeNew (P := Tryz.prog) wr (#[.int .i64 0, .int .i64 0, .int .i64 0, .int .i64 0, .bool false, .int .i64 0, .int .i64 0, .int .i64 0, .int .i64 0, .int .i64 0, .slice none 0 0, .slice none 0 0, .bool false, .int .i64 0, .slice none 0 0, .int .i64 0]) AN 98 (by rw [hAN]; rfl) hone
   have hb := Below.nw wr (.cells AN 98)
   have N := Bo.new wr AN 98
   go_upto_region 7 with (first | rw [hLN] | rw [hst])
   clear hLN hst HN
   replace B := B.trans (hb.mono B.size)
   replace L := L.below hb
   replace O := own_belowW O hb
   replace hlo := Nat.le_trans hlo hb.size
   clear hb
   generalize wr.alloc (.cells AN 98) = v5 at *
   generalize wr.heap.size = kN at *
   have SK : Hid (∀ w', Below v5.heap.size v5 w' → (fun w' => w'.cell? ⟨w.heap.size, 11, none⟩ = some (.slice (some ⟨lb, lo2, none⟩) x.nl lc) ∧ w'.cell? ⟨lb, lo2 + k, none⟩ = some (.bool lie) ∧ (loadCells ⟨w.heap.size, 0, none⟩ 11).run Tryz.prog w' = .ok (cfV x.y p d) w' ∧ w'.cell? ⟨w.heap.size, 13, none⟩ = some (.slice (some ⟨cb, co, none⟩) x.nc cc) ∧ w'.cell? ⟨cb, co + k, none⟩ = some (.int .i64 ct) ∧ w'.cell? ⟨w.heap.size, 12, none⟩ = some (.int .i64 x.ti) ∧ (loadCells ⟨kN, 0, none⟩ 16).run Tryz.prog w' = .ok AN w') w') := fun w' hw => ⟨(L.below hw).cell rfl, HLk.out _ (B.trans (hw.mono B.size)), (L.below hw).loadAt (P := Tryz.prog) 0 11 (show 0 + 11 ≤ 18 by decide), (L.below hw).cell rfl, HK.out _ (B.trans (hw.mono B.size)), (L.below hw).cell rfl, (N.below hw).load (P := Tryz.prog) hAN⟩
   clear HLk HK
   cases lie
   ·refine wp_region_held_drew (S := (fun w' => w'.cell? ⟨w.heap.size, 11, none⟩ = some (.slice (some ⟨lb, lo2, none⟩) x.nl lc) ∧ w'.cell? ⟨lb, lo2 + k, none⟩ = some (.bool false) ∧ (loadCells ⟨w.heap.size, 0, none⟩ 11).run Tryz.prog w' = .ok (cfV x.y p d) w' ∧ w'.cell? ⟨w.heap.size, 13, none⟩ = some (.slice (some ⟨cb, co, none⟩) x.nc cc) ∧ w'.cell? ⟨cb, co + k, none⟩ = some (.int .i64 ct) ∧ w'.cell? ⟨w.heap.size, 12, none⟩ = some (.int .i64 x.ti) ∧ (loadCells ⟨kN, 0, none⟩ 16).run Tryz.prog w' = .ok AN w')) (by kernel_rfl) ?_ (fun hHeld => ?_)
    ·first | exact SK.out _ XB | exact SK.out _ (Below.drew (Below.refl _ _))
    have XB : Below v5.heap.size v5 v5.drew := Below.drew (Below.refl _ _)
    generalize v5.drew = vx at *
    refine zTk 0 ?_
    refine zTk 1 ?_
    refine zTk 2 ?_
    refine zTk 3 ?_
    refine zTk 4 ?_
    refine zTk 5 ?_
    refine zTk 6 ?_
    refine zTk 7 ?_
    refine zTk 8 ?_
    refine zTk 9 ?_
    refine zTk 10 ?_
    refine zTk 11 ?_
    refine zTk 12 ?_
    refine zTk 13 ?_
    refine zTk 14 ?_
    refine zTk 15 ?_
    refine zTk 16 ?_
    refine wpAnyH_ready (rs := [17]) (by kernel_rfl) (by simp) ?_
    refine AllReadyH.cons (by rw [List.getElem?_toArray]; rfl) (fun K hK => ?_) AllReadyH.nil
    go_simp
    refine (CT _ (B.trans (XB.mono B.size))).mono ?_; rintro ee vx ⟨rfl, hbl⟩; (replace XB := XB.trans (hbl.mono XB.size)); (clear hbl)
    (try go_wp2_with fail)
    refine hK.out _ _ ?_ (fun hHeld => ?_)
    ·first | exact SK.out _ XB | exact SK.out _ (Below.drew (Below.refl _ _))
    clear hK K
    (try simp only [Act.put, zSb, zS0, zS1])
    refine zTk 18 ?_
    refine zTk 19 ?_
    refine wpAnyH_done (by kernel_rfl) ?_ _
    replace B := B.trans (XB.mono B.size)
    replace L := L.below XB
    replace O := own_belowW O XB
    replace hlo := Nat.le_trans hlo XB.size
    clear SK XB CT
    cases tru
    ·have HR2 : Hid (wfN x (k + 1) = wfN x k ++ [(k : Int)]) := HRT.out rfl
     clear HRF HRT
     go_wp2_with (at_builtin; refine add_int rfl _ _ rfl (w.heap.size + 1) (wfN x k) _ rfl O rfl (by omega) hlo ?_; intro v8 w8 O8 hg8 _)
     have Bg := grown_belowW O hg8 hlo
     replace L := L.belowB Bg (Nat.lt_succ_self _)
     replace B := B.trans (Bg.mono (Nat.le_succ _))
     have hlo2 := Nat.le_trans hlo Bg.size
     have O9 : w8.ownsRow (w.heap.size + 1) 3 1 v8 (wfN x (k + 1)).length (irow (wfN x (k + 1))) := by rw [HR2.out]; exact O8
     clear Bg O O8 hg8 hlo HR2 hlen
     go_wp2_with fail
     go_roundw
     case rel => exact ⟨k + 1, by omega, by go_num, O9, L, B, hlo2⟩
     case measure => simp [intOf]; omega
    ·have HR2 : Hid (wfN x (k + 1) = wfN x k) := HRF.out rfl
     clear HRF HRT
     go_wp2_with fail
     go_roundw
     case rel => exact ⟨k + 1, by omega, by go_num, by rw [HR2.out]; exact O, L, B, hlo⟩
     case measure => simp [intOf]; omega
   ·refine wp_region_held_drew (S := (fun w' => w'.cell? ⟨w.heap.size, 11, none⟩ = some (.slice (some ⟨lb, lo2, none⟩) x.nl lc) ∧ w'.cell? ⟨lb, lo2 + k, none⟩ = some (.bool true) ∧ (loadCells ⟨w.heap.size, 0, none⟩ 11).run Tryz.prog w' = .ok (cfV x.y p d) w' ∧ w'.cell? ⟨w.heap.size, 13, none⟩ = some (.slice (some ⟨cb, co, none⟩) x.nc cc) ∧ w'.cell? ⟨cb, co + k, none⟩ = some (.int .i64 ct) ∧ w'.cell? ⟨w.heap.size, 12, none⟩ = some (.int .i64 x.ti) ∧ (loadCells ⟨kN, 0, none⟩ 16).run Tryz.prog w' = .ok AN w')) (by kernel_rfl) ?_ (fun hHeld => ?_)
    ·first | exact SK.out _ XB | exact SK.out _ (Below.drew (Below.refl _ _))
    have XB : Below v5.heap.size v5 v5.drew := Below.drew (Below.refl _ _)
    generalize v5.drew = vx at *
    refine zTk 0 ?_
    refine zTk 1 ?_
    refine zTk 2 ?_
    refine zTk 3 ?_
    refine zTk 4 ?_
    refine zTk 5 ?_
    refine zTk 6 ?_
    refine zTn 7 ?_
    refine zTn 8 ?_
    refine zTn 9 ?_
    refine zTn 10 ?_
    refine zTn 11 ?_
    refine zTn 12 ?_
    refine zTn 13 ?_
    refine zTn 14 ?_
    refine zTn 15 ?_
    refine zTn 16 ?_
    refine zTn 17 ?_
    refine zTn 18 ?_
    refine zTk 19 ?_
    refine wpAnyH_done (by kernel_rfl) ?_ _
    replace B := B.trans (XB.mono B.size)
    replace L := L.below XB
    replace O := own_belowW O XB
    replace hlo := Nat.le_trans hlo XB.size
    clear SK XB CT
    have HR2 : Hid (wfN x (k + 1) = wfN x k) := HRF.out rfl
    clear HRF HRT
    go_wp2_with fail
    go_roundw
    case rel => exact ⟨k + 1, by omega, by go_num, by rw [HR2.out]; exact O, L, B, hlo⟩
    case measure => simp [intOf]; omega
  have hkn : k = x.nn := by omega
  have hli : ¬ (k : Int) < (x.nn : Int) := by omega
  rw [hkn] at O
  clear hlt HNS HCS HCC HLB HC HWF
  go_wp2_with fail
  go_ret
  exact ⟨_, rfl, by rw [HE.out]; exact own_baseW O (Nat.le_succ _), B⟩
end Go.Proofs.YtddijpjgkifngaaGreat
