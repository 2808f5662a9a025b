/- The cells of a box of a node, written at once. -/
import Derived.Test.YtddijpjgkifngaaGreatM20
namespace Go.Proofs.YtddijpjgkifngaaGreat
open Go.RowKit
set_option linter.unusedVariables false
theorem Nx16.put {w : World} {k : Nat} {a0 a1 a2 a3 a4 a5 a6 a7 a8 a9 a10 a11 a12 a13 a14 a15 : Value} (h : Nx16 w k a0 a1 a2 a3 a4 a5 a6 a7 a8 a9 a10 a11 a12 a13 a14 a15) (u0 u1 u2 u3 u4 u5 u6 u7 u8 u9 u10 u11 u12 u13 u14 u15 : Value) : Nx16 (((((((((((((((((w).setCell ⟨k, 0, none⟩ u0).setCell ⟨k, 1, none⟩ u1).setCell ⟨k, 2, none⟩ u2).setCell ⟨k, 3, none⟩ u3).setCell ⟨k, 4, none⟩ u4).setCell ⟨k, 5, none⟩ u5).setCell ⟨k, 6, none⟩ u6).setCell ⟨k, 7, none⟩ u7).setCell ⟨k, 8, none⟩ u8).setCell ⟨k, 9, none⟩ u9).setCell ⟨k, 10, none⟩ u10).setCell ⟨k, 11, none⟩ u11).setCell ⟨k, 12, none⟩ u12).setCell ⟨k, 13, none⟩ u13).setCell ⟨k, 14, none⟩ u14).setCell ⟨k, 15, none⟩ u15) k u0 u1 u2 u3 u4 u5 u6 u7 u8 u9 u10 u11 u12 u13 u14 u15 := ((((((((((((((((h.set0 u0).set1 u1).set2 u2).set3 u3).set4 u4).set5 u5).set6 u6).set7 u7).set8 u8).set9 u9).set10 u10).set11 u11).set12 u12).set13 u13).set14 u14).set15 u15)
theorem Below.put16 {B : Nat} {v w : World} (h : Below B v w) {k : Nat} (hk : B ≤ k) (u0 u1 u2 u3 u4 u5 u6 u7 u8 u9 u10 u11 u12 u13 u14 u15 : Value) : Below B v (((((((((((((((((w).setCell ⟨k, 0, none⟩ u0).setCell ⟨k, 1, none⟩ u1).setCell ⟨k, 2, none⟩ u2).setCell ⟨k, 3, none⟩ u3).setCell ⟨k, 4, none⟩ u4).setCell ⟨k, 5, none⟩ u5).setCell ⟨k, 6, none⟩ u6).setCell ⟨k, 7, none⟩ u7).setCell ⟨k, 8, none⟩ u8).setCell ⟨k, 9, none⟩ u9).setCell ⟨k, 10, none⟩ u10).setCell ⟨k, 11, none⟩ u11).setCell ⟨k, 12, none⟩ u12).setCell ⟨k, 13, none⟩ u13).setCell ⟨k, 14, none⟩ u14).setCell ⟨k, 15, none⟩ u15) := ((((((((((((((((h.setCell (p := ⟨k, 0, none⟩) hk u0).setCell (p := ⟨k, 1, none⟩) hk u1).setCell (p := ⟨k, 2, none⟩) hk u2).setCell (p := ⟨k, 3, none⟩) hk u3).setCell (p := ⟨k, 4, none⟩) hk u4).setCell (p := ⟨k, 5, none⟩) hk u5).setCell (p := ⟨k, 6, none⟩) hk u6).setCell (p := ⟨k, 7, none⟩) hk u7).setCell (p := ⟨k, 8, none⟩) hk u8).setCell (p := ⟨k, 9, none⟩) hk u9).setCell (p := ⟨k, 10, none⟩) hk u10).setCell (p := ⟨k, 11, none⟩) hk u11).setCell (p := ⟨k, 12, none⟩) hk u12).setCell (p := ⟨k, 13, none⟩) hk u13).setCell (p := ⟨k, 14, none⟩) hk u14).setCell (p := ⟨k, 15, none⟩) hk u15)
theorem Nx16.load {P : Program} {w : World} {k : Nat} {u0 u1 u2 u3 u4 u5 u6 u7 u8 u9 u10 u11 u12 u13 u14 u15 : Value} (h : Nx16 w k u0 u1 u2 u3 u4 u5 u6 u7 u8 u9 u10 u11 u12 u13 u14 u15) : (loadCells ⟨k, 0, none⟩ 16).run P w = .ok #[u0, u1, u2, u3, u4, u5, u6, u7, u8, u9, u10, u11, u12, u13, u14, u15] w := by
 obtain ⟨h0, h1, h2, h3, h4, h5, h6, h7, h8, h9, h10, h11, h12, h13, h14, h15, h16, f1, f2, f3, f4, f5, f6, f7, f8, f9, f10, f11, f12, f13, f14, f15, f16⟩ := h
 refine run_loadCells_list (P := P) w ⟨k, 0, none⟩ [u0, u1, u2, u3, u4, u5, u6, u7, u8, u9, u10, u11, u12, u13, u14, u15] (fun j v hj => ?_)
 rcases j with _|_|_|_|_|_|_|_|_|_|_|_|_|_|_|_|j
 all_goals (simp [Addr.add] at hj ⊢)
 all_goals (subst hj; assumption)
theorem run_storeCells_one {P : Program} {w : World} {k : Nat} {v : Value} {vs : List Value} {i : Nat} {u : Value} (hc : w.cell? ⟨k, i, none⟩ = some u) (hf : w.frozen? ⟨k, i, none⟩ = false) (hv : v.oneCell' = true) : (storeCells ⟨k, 0, none⟩ (v :: vs) i).run P w = (storeCells ⟨k, 0, none⟩ vs (i + 1)).run P (w.setCell ⟨k, i, none⟩ v) := by
 have e : (⟨k, 0, none⟩ : Addr).add i = ⟨k, i, none⟩ := by unfold Addr.add; split <;> simp_all
 rw [storeCells, Sem.run_bind, e, run_store _ _ _ _ _ hv, hc]
 simp [hf, Result.andThen]
theorem Nx16.store {P : Program} {w : World} {k : Nat} {a0 a1 a2 a3 a4 a5 a6 a7 a8 a9 a10 a11 a12 a13 a14 a15 : Value} (h : Nx16 w k a0 a1 a2 a3 a4 a5 a6 a7 a8 a9 a10 a11 a12 a13 a14 a15) {u0 u1 u2 u3 u4 u5 u6 u7 u8 u9 u10 u11 u12 u13 u14 u15 : Value} (o0 : u0.oneCell' = true) (o1 : u1.oneCell' = true) (o2 : u2.oneCell' = true) (o3 : u3.oneCell' = true) (o4 : u4.oneCell' = true) (o5 : u5.oneCell' = true) (o6 : u6.oneCell' = true) (o7 : u7.oneCell' = true) (o8 : u8.oneCell' = true) (o9 : u9.oneCell' = true) (o10 : u10.oneCell' = true) (o11 : u11.oneCell' = true) (o12 : u12.oneCell' = true) (o13 : u13.oneCell' = true) (o14 : u14.oneCell' = true) (o15 : u15.oneCell' = true) : (storeCells ⟨k, 0, none⟩ [u0, u1, u2, u3, u4, u5, u6, u7, u8, u9, u10, u11, u12, u13, u14, u15]).run P w = .ok () (((((((((((((((((w).setCell ⟨k, 0, none⟩ u0).setCell ⟨k, 1, none⟩ u1).setCell ⟨k, 2, none⟩ u2).setCell ⟨k, 3, none⟩ u3).setCell ⟨k, 4, none⟩ u4).setCell ⟨k, 5, none⟩ u5).setCell ⟨k, 6, none⟩ u6).setCell ⟨k, 7, none⟩ u7).setCell ⟨k, 8, none⟩ u8).setCell ⟨k, 9, none⟩ u9).setCell ⟨k, 10, none⟩ u10).setCell ⟨k, 11, none⟩ u11).setCell ⟨k, 12, none⟩ u12).setCell ⟨k, 13, none⟩ u13).setCell ⟨k, 14, none⟩ u14).setCell ⟨k, 15, none⟩ u15) := by
 have c0 := (h).2.1
 have g0 := (h).2.2.2.2.2.2.2.2.2.2.2.2.2.2.2.2.2.1
 have H1 := (h).set0 u0
 have c1 := (H1).2.2.1
 have g1 := (H1).2.2.2.2.2.2.2.2.2.2.2.2.2.2.2.2.2.2.1
 have H2 := (H1).set1 u1
 have c2 := (H2).2.2.2.1
 have g2 := (H2).2.2.2.2.2.2.2.2.2.2.2.2.2.2.2.2.2.2.2.1
 have H3 := (H2).set2 u2
 have c3 := (H3).2.2.2.2.1
 have g3 := (H3).2.2.2.2.2.2.2.2.2.2.2.2.2.2.2.2.2.2.2.2.1
 have H4 := (H3).set3 u3
 have c4 := (H4).2.2.2.2.2.1
 have g4 := (H4).2.2.2.2.2.2.2.2.2.2.2.2.2.2.2.2.2.2.2.2.2.1
 have H5 := (H4).set4 u4
 have c5 := (H5).2.2.2.2.2.2.1
 have g5 := (H5).2.2.2.2.2.2.2.2.2.2.2.2.2.2.2.2.2.2.2.2.2.2.1
 have H6 := (H5).set5 u5
 have c6 := (H6).2.2.2.2.2.2.2.1
 have g6 := (H6).2.2.2.2.2.2.2.2.2.2.2.2.2.2.2.2.2.2.2.2.2.2.2.1
 have H7 := (H6).set6 u6
 have c7 := (H7).2.2.2.2.2.2.2.2.1
 have g7 := (H7).2.2.2.2.2.2.2.2.2.2.2.2.2.2.2.2.2.2.2.2.2.2.2.2.1
 have H8 := (H7).set7 u7
 have c8 := (H8).2.2.2.2.2.2.2.2.2.1
 have g8 := (H8).2.2.2.2.2.2.2.2.2.2.2.2.2.2.2.2.2.2.2.2.2.2.2.2.2.1
 have H9 := (H8).set8 u8
 have c9 := (H9).2.2.2.2.2.2.2.2.2.2.1
 have g9 := (H9).2.2.2.2.2.2.2.2.2.2.2.2.2.2.2.2.2.2.2.2.2.2.2.2.2.2.1
 have H10 := (H9).set9 u9
 have c10 := (H10).2.2.2.2.2.2.2.2.2.2.2.1
 have g10 := (H10).2.2.2.2.2.2.2.2.2.2.2.2.2.2.2.2.2.2.2.2.2.2.2.2.2.2.2.1
 have H11 := (H10).set10 u10
 have c11 := (H11).2.2.2.2.2.2.2.2.2.2.2.2.1
 have g11 := (H11).2.2.2.2.2.2.2.2.2.2.2.2.2.2.2.2.2.2.2.2.2.2.2.2.2.2.2.2.1
 have H12 := (H11).set11 u11
 have c12 := (H12).2.2.2.2.2.2.2.2.2.2.2.2.2.1
 have g12 := (H12).2.2.2.2.2.2.2.2.2.2.2.2.2.2.2.2.2.2.2.2.2.2.2.2.2.2.2.2.2.1
 have H13 := (H12).set12 u12
 have c13 := (H13).2.2.2.2.2.2.2.2.2.2.2.2.2.2.1
 have g13 := (H13).2.2.2.2.2.2.2.2.2.2.2.2.2.2.2.2.2.2.2.2.2.2.2.2.2.2.2.2.2.2.1
 have H14 := (H13).set13 u13
 have c14 := (H14).2.2.2.2.2.2.2.2.2.2.2.2.2.2.2.1
 have g14 := (H14).2.2.2.2.2.2.2.2.2.2.2.2.2.2.2.2.2.2.2.2.2.2.2.2.2.2.2.2.2.2.2.1
 have H15 := (H14).set14 u14
 have c15 := (H15).2.2.2.2.2.2.2.2.2.2.2.2.2.2.2.2.1
 have g15 := (H15).2.2.2.2.2.2.2.2.2.2.2.2.2.2.2.2.2.2.2.2.2.2.2.2.2.2.2.2.2.2.2.2
 have H16 := (H15).set15 u15
 rw [run_storeCells_one c0 g0 o0]
 rw [run_storeCells_one c1 g1 o1]
 rw [run_storeCells_one c2 g2 o2]
 rw [run_storeCells_one c3 g3 o3]
 rw [run_storeCells_one c4 g4 o4]
 rw [run_storeCells_one c5 g5 o5]
 rw [run_storeCells_one c6 g6 o6]
 rw [run_storeCells_one c7 g7 o7]
 rw [run_storeCells_one c8 g8 o8]
 rw [run_storeCells_one c9 g9 o9]
 rw [run_storeCells_one c10 g10 o10]
 rw [run_storeCells_one c11 g11 o11]
 rw [run_storeCells_one c12 g12 o12]
 rw [run_storeCells_one c13 g13 o13]
 rw [run_storeCells_one c14 g14 o14]
 rw [run_storeCells_one c15 g15 o15]
 rfl
end Go.Proofs.YtddijpjgkifngaaGreat
