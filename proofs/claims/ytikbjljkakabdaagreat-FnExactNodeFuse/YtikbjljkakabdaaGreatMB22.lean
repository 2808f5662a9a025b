/- The cells of a box of a node, written at once. What the laws make of a -/
import Derived.Test.YtikbjljkakabdaaGreatMB16
namespace Go.Proofs.YtikbjljkakabdaaGreat
open Go.RowKit
set_option linter.unusedVariables false
set_option maxRecDepth 100000
set_option maxHeartbeats 16000000
theorem aE.put {w : World} {k : Nat} {a0 a1 a2 a3 a4 a5 a6 a7 a8 a9 a10 a11 a12 a13 a14 a15 : Value} (h : aE w k a0 a1 a2 a3 a4 a5 a6 a7 a8 a9 a10 a11 a12 a13 a14 a15) (u0 u1 u2 u3 u4 u5 u6 u7 u8 u9 u10 u11 u12 u13 u14 u15 : Value) : aE (((((((((((((((((w).setCell ⟨k, 0, none⟩ u0).setCell ⟨k, 1, none⟩ u1).setCell ⟨k, 2, none⟩ u2).setCell ⟨k, 3, none⟩ u3).setCell ⟨k, 4, none⟩ u4).setCell ⟨k, 5, none⟩ u5).setCell ⟨k, 6, none⟩ u6).setCell ⟨k, 7, none⟩ u7).setCell ⟨k, 8, none⟩ u8).setCell ⟨k, 9, none⟩ u9).setCell ⟨k, 10, none⟩ u10).setCell ⟨k, 11, none⟩ u11).setCell ⟨k, 12, none⟩ u12).setCell ⟨k, 13, none⟩ u13).setCell ⟨k, 14, none⟩ u14).setCell ⟨k, 15, none⟩ u15) k u0 u1 u2 u3 u4 u5 u6 u7 u8 u9 u10 u11 u12 u13 u14 u15 := ((((((((((((((((h.set0 u0).set1 u1).set2 u2).set3 u3).set4 u4).set5 u5).set6 u6).set7 u7).set8 u8).set9 u9).set10 u10).set11 u11).set12 u12).set13 u13).set14 u14).set15 u15)
theorem Below.put16 {B : Nat} {v w : World} (h : Below B v w) {k : Nat} (hk : B ≤ k) (u0 u1 u2 u3 u4 u5 u6 u7 u8 u9 u10 u11 u12 u13 u14 u15 : Value) : Below B v (((((((((((((((((w).setCell ⟨k, 0, none⟩ u0).setCell ⟨k, 1, none⟩ u1).setCell ⟨k, 2, none⟩ u2).setCell ⟨k, 3, none⟩ u3).setCell ⟨k, 4, none⟩ u4).setCell ⟨k, 5, none⟩ u5).setCell ⟨k, 6, none⟩ u6).setCell ⟨k, 7, none⟩ u7).setCell ⟨k, 8, none⟩ u8).setCell ⟨k, 9, none⟩ u9).setCell ⟨k, 10, none⟩ u10).setCell ⟨k, 11, none⟩ u11).setCell ⟨k, 12, none⟩ u12).setCell ⟨k, 13, none⟩ u13).setCell ⟨k, 14, none⟩ u14).setCell ⟨k, 15, none⟩ u15) := ((((((((((((((((h.setCell (p := ⟨k, 0, none⟩) hk u0).setCell (p := ⟨k, 1, none⟩) hk u1).setCell (p := ⟨k, 2, none⟩) hk u2).setCell (p := ⟨k, 3, none⟩) hk u3).setCell (p := ⟨k, 4, none⟩) hk u4).setCell (p := ⟨k, 5, none⟩) hk u5).setCell (p := ⟨k, 6, none⟩) hk u6).setCell (p := ⟨k, 7, none⟩) hk u7).setCell (p := ⟨k, 8, none⟩) hk u8).setCell (p := ⟨k, 9, none⟩) hk u9).setCell (p := ⟨k, 10, none⟩) hk u10).setCell (p := ⟨k, 11, none⟩) hk u11).setCell (p := ⟨k, 12, none⟩) hk u12).setCell (p := ⟨k, 13, none⟩) hk u13).setCell (p := ⟨k, 14, none⟩) hk u14).setCell (p := ⟨k, 15, none⟩) hk u15)
theorem aE.load {P : Program} {w : World} {k : Nat} {u0 u1 u2 u3 u4 u5 u6 u7 u8 u9 u10 u11 u12 u13 u14 u15 : Value} (h : aE w k u0 u1 u2 u3 u4 u5 u6 u7 u8 u9 u10 u11 u12 u13 u14 u15) : (loadCells ⟨k, 0, none⟩ 16).run P w = .ok #[u0, u1, u2, u3, u4, u5, u6, u7, u8, u9, u10, u11, u12, u13, u14, u15] w := by
 obtain ⟨h0, h1, h2, h3, h4, h5, h6, h7, h8, h9, h10, h11, h12, h13, h14, h15, h16, f1, f2, f3, f4, f5, f6, f7, f8, f9, f10, f11, f12, f13, f14, f15, f16⟩ := h
 refine run_loadCells_list (P := P) w ⟨k, 0, none⟩ [u0, u1, u2, u3, u4, u5, u6, u7, u8, u9, u10, u11, u12, u13, u14, u15] (fun j v hj => ?_)
 rcases j with _|_|_|_|_|_|_|_|_|_|_|_|_|_|_|_|j
 all_goals (simp [Addr.add] at hj ⊢)
 all_goals (subst hj; assumption)
theorem ar {P : Program} {w : World} {k : Nat} {v : Value} {vs : List Value} {i : Nat} {u : Value} (hc : w.cell? ⟨k, i, none⟩ = some u) (hf : w.frozen? ⟨k, i, none⟩ = false) (hv : v.oneCell' = true) : (storeCells ⟨k, 0, none⟩ (v :: vs) i).run P w = (storeCells ⟨k, 0, none⟩ vs (i + 1)).run P (w.setCell ⟨k, i, none⟩ v) := by
 have e : (⟨k, 0, none⟩ : Addr).add i = ⟨k, i, none⟩ := by unfold Addr.add; split <;> simp_all
 rw [storeCells, Sem.run_bind, e, run_store _ _ _ _ _ hv, hc]
 simp [hf, Result.andThen]
theorem aE.store {P : Program} {w : World} {k : Nat} {a0 a1 a2 a3 a4 a5 a6 a7 a8 a9 a10 a11 a12 a13 a14 a15 : Value} (h : aE w k a0 a1 a2 a3 a4 a5 a6 a7 a8 a9 a10 a11 a12 a13 a14 a15) {u0 u1 u2 u3 u4 u5 u6 u7 u8 u9 u10 u11 u12 u13 u14 u15 : Value} (o0 : u0.oneCell' = true) (o1 : u1.oneCell' = true) (o2 : u2.oneCell' = true) (o3 : u3.oneCell' = true) (o4 : u4.oneCell' = true) (o5 : u5.oneCell' = true) (o6 : u6.oneCell' = true) (o7 : u7.oneCell' = true) (o8 : u8.oneCell' = true) (o9 : u9.oneCell' = true) (o10 : u10.oneCell' = true) (o11 : u11.oneCell' = true) (o12 : u12.oneCell' = true) (o13 : u13.oneCell' = true) (o14 : u14.oneCell' = true) (o15 : u15.oneCell' = true) : (storeCells ⟨k, 0, none⟩ [u0, u1, u2, u3, u4, u5, u6, u7, u8, u9, u10, u11, u12, u13, u14, u15]).run P w = .ok () (((((((((((((((((w).setCell ⟨k, 0, none⟩ u0).setCell ⟨k, 1, none⟩ u1).setCell ⟨k, 2, none⟩ u2).setCell ⟨k, 3, none⟩ u3).setCell ⟨k, 4, none⟩ u4).setCell ⟨k, 5, none⟩ u5).setCell ⟨k, 6, none⟩ u6).setCell ⟨k, 7, none⟩ u7).setCell ⟨k, 8, none⟩ u8).setCell ⟨k, 9, none⟩ u9).setCell ⟨k, 10, none⟩ u10).setCell ⟨k, 11, none⟩ u11).setCell ⟨k, 12, none⟩ u12).setCell ⟨k, 13, none⟩ u13).setCell ⟨k, 14, none⟩ u14).setCell ⟨k, 15, none⟩ u15) := by
 have c0 := (h).2.1
 have g0 := (h).2.2.2.2.2.2.2.2.2.2.2.2.2.2.2.2.2.1
 have H1 := (h).set0 u0
 have c1 := (H1).2.2.1
 have g1 := (H1).2.2.2.2.2.2.2.2.2.2.2.2.2.2.2.2.2.2.1
 have H2 := (H1).set1 u1
 have c2 := (H2).2.2.2.1
 have g2 := (H2).2.2.2.2.2.2.2.2.2.2.2.2.2.2.2.2.2.2.2.1
 have H3 := (H2).set2 u2
 have c3 := (H3).2.2.2.2.1
 have g3 := (H3).2.2.2.2.2.2.2.2.2.2.2.2.2.2.2.2.2.2.2.2.1
 have H4 := (H3).set3 u3
 have c4 := (H4).2.2.2.2.2.1
 have g4 := (H4).2.2.2.2.2.2.2.2.2.2.2.2.2.2.2.2.2.2.2.2.2.1
 have H5 := (H4).set4 u4
 have c5 := (H5).2.2.2.2.2.2.1
 have g5 := (H5).2.2.2.2.2.2.2.2.2.2.2.2.2.2.2.2.2.2.2.2.2.2.1
 have H6 := (H5).set5 u5
 have c6 := (H6).2.2.2.2.2.2.2.1
 have g6 := (H6).2.2.2.2.2.2.2.2.2.2.2.2.2.2.2.2.2.2.2.2.2.2.2.1
 have H7 := (H6).set6 u6
 have c7 := (H7).2.2.2.2.2.2.2.2.1
 have g7 := (H7).2.2.2.2.2.2.2.2.2.2.2.2.2.2.2.2.2.2.2.2.2.2.2.2.1
 have H8 := (H7).set7 u7
 have c8 := (H8).2.2.2.2.2.2.2.2.2.1
 have g8 := (H8).2.2.2.2.2.2.2.2.2.2.2.2.2.2.2.2.2.2.2.2.2.2.2.2.2.1
 have H9 := (H8).set8 u8
 have c9 := (H9).2.2.2.2.2.2.2.2.2.2.1
 have g9 := (H9).2.2.2.2.2.2.2.2.2.2.2.2.2.2.2.2.2.2.2.2.2.2.2.2.2.2.1
 have H10 := (H9).set9 u9
 have c10 := (H10).2.2.2.2.2.2.2.2.2.2.2.1
 have g10 := (H10).2.2.2.2.2.2.2.2.2.2.2.2.2.2.2.2.2.2.2.2.2.2.2.2.2.2.2.1
 have H11 := (H10).set10 u10
 have c11 := (H11).2.2.2.2.2.2.2.2.2.2.2.2.1
 have g11 := (H11).2.2.2.2.2.2.2.2.2.2.2.2.2.2.2.2.2.2.2.2.2.2.2.2.2.2.2.2.1
 have H12 := (H11).set11 u11
 have c12 := (H12).2.2.2.2.2.2.2.2.2.2.2.2.2.1
 have g12 := (H12).2.2.2.2.2.2.2.2.2.2.2.2.2.2.2.2.2.2.2.2.2.2.2.2.2.2.2.2.2.1
 have H13 := (H12).set12 u12
 have c13 := (H13).2.2.2.2.2.2.2.2.2.2.2.2.2.2.1
 have g13 := (H13).2.2.2.2.2.2.2.2.2.2.2.2.2.2.2.2.2.2.2.2.2.2.2.2.2.2.2.2.2.2.1
 have H14 := (H13).set13 u13
 have c14 := (H14).2.2.2.2.2.2.2.2.2.2.2.2.2.2.2.1
 have g14 := (H14).2.2.2.2.2.2.2.2.2.2.2.2.2.2.2.2.2.2.2.2.2.2.2.2.2.2.2.2.2.2.2.1
 have H15 := (H14).set14 u14
 have c15 := (H15).2.2.2.2.2.2.2.2.2.2.2.2.2.2.2.2.1
 have g15 := (H15).2.2.2.2.2.2.2.2.2.2.2.2.2.2.2.2.2.2.2.2.2.2.2.2.2.2.2.2.2.2.2.2
 have H16 := (H15).set15 u15
 rw [ar c0 g0 o0]
 rw [ar c1 g1 o1]
 rw [ar c2 g2 o2]
 rw [ar c3 g3 o3]
 rw [ar c4 g4 o4]
 rw [ar c5 g5 o5]
 rw [ar c6 g6 o6]
 rw [ar c7 g7 o7]
 rw [ar c8 g8 o8]
 rw [ar c9 g9 o9]
 rw [ar c10 g10 o10]
 rw [ar c11 g11 o11]
 rw [ar c12 g12 o12]
 rw [ar c13 g13 o13]
 rw [ar c14 g14 o14]
 rw [ar c15 g15 o15]
 rfl
theorem ak {w : World} {b N m : Nat} {T : TypeId} {F : Nat → Value} (h : ax w b T N m F) {k : Nat} (hk : k < b) (o : Nat) (u : Value) : ax (w.setCell ⟨k, o, none⟩ u) b T N m F := by
 obtain ⟨gg, hr, hh⟩ := h
 exact ⟨gg, hr.setOther (a := ⟨k, o, none⟩) (by show b ≠ k; omega) _, hh⟩
attribute [-go_sem] loadCells in
theorem nr (ni mo ep si : Int) (kn : Bool) (lo hi la te us : Int) (aa : Option Addr) (na ac : Nat) (AM : Nat → KT) (pa : Option Addr) (np pc : Nat) (QM : Nat → PT) (hs : Bool) (ls : Int) (ha : Option Addr) (nh hc : Nat) (HM : Nat → VT) (se : Int) (w : World) (hna : na ≤ 1048576) (sA : az w aa (na * 4) (aA AM)) (hnp : np ≤ 1048576) (sP : az w pa (np * 5) (am QM)) (hnh : nh ≤ 1048576) (sH : az w ha (nh * 2) (au HM)) :
 Calls Tryz.prog 9 #[.agg #[.int .i64 ni, .int .i64 mo, .int .i64 ep, .int .i64 si, .bool kn, .int .i64 lo, .int .i64 hi, .int .i64 la, .int .i64 te, .int .i64 us, .slice aa na ac, .slice pa np pc, .bool hs, .int .i64 ls, .slice ha nh hc, .int .i64 se]] w fun e w' => ∃ jA jP jH, e = .returned (.agg #[.int .i64 ni, .int .i64 mo, .int .i64 ep, .int .i64 si, .bool kn, .int .i64 lo, .int .i64 hi, .int .i64 la, .int .i64 te, .int .i64 us, .slice (some ⟨jA, 0, none⟩) na na, .slice (some ⟨jP, 0, none⟩) np np, .bool hs, .int .i64 ls, .slice (some ⟨jH, 0, none⟩) nh nh, .int .i64 se]) ∧ w.heap.size ≤ jA ∧ jA < jP ∧ jP < jH ∧ ax (w') jA 88 (na * 4) (na * 4) (aA AM) ∧ ax (w') jP 154 (np * 5) (np * 5) (am QM) ∧ ax (w') jH 159 (nh * 2) (nh * 2) (au HM) ∧ Below w.heap.size w w' := by
 have A0 := Below.nw w (.cells #[.int .i64 ni, .int .i64 mo, .int .i64 ep, .int .i64 si, .bool kn, .int .i64 lo, .int .i64 hi, .int .i64 la, .int .i64 te, .int .i64 us, .slice aa na ac, .slice pa np pc, .bool hs, .int .i64 ls, .slice ha nh hc, .int .i64 se] 43)
 have A1 := Below.nw (w.alloc (.cells #[.int .i64 ni, .int .i64 mo, .int .i64 ep, .int .i64 si, .bool kn, .int .i64 lo, .int .i64 hi, .int .i64 la, .int .i64 te, .int .i64 us, .slice aa na ac, .slice pa np pc, .bool hs, .int .i64 ls, .slice ha nh hc, .int .i64 se] 43)) (.cells #[.int .i64 0, .int .i64 0, .int .i64 0, .int .i64 0, .bool false, .int .i64 0, .int .i64 0, .int .i64 0, .int .i64 0, .int .i64 0, .slice none 0 0, .slice none 0 0, .bool false, .int .i64 0, .slice none 0 0, .int .i64 0] 57)
 have A2 := Below.nw ((w.alloc (.cells #[.int .i64 ni, .int .i64 mo, .int .i64 ep, .int .i64 si, .bool kn, .int .i64 lo, .int .i64 hi, .int .i64 la, .int .i64 te, .int .i64 us, .slice aa na ac, .slice pa np pc, .bool hs, .int .i64 ls, .slice ha nh hc, .int .i64 se] 43)).alloc (.cells #[.int .i64 0, .int .i64 0, .int .i64 0, .int .i64 0, .bool false, .int .i64 0, .int .i64 0, .int .i64 0, .int .i64 0, .int .i64 0, .slice none 0 0, .slice none 0 0, .bool false, .int .i64 0, .slice none 0 0, .int .i64 0] 57)) (.cells #[.int .i64 0, .int .i64 0, .int .i64 0, .int .i64 0, .bool false, .int .i64 0, .int .i64 0, .int .i64 0, .int .i64 0, .int .i64 0, .slice none 0 0, .slice none 0 0, .bool false, .int .i64 0, .slice none 0 0, .int .i64 0] 57)
 have N := ((aE.new w (.int .i64 ni) (.int .i64 mo) (.int .i64 ep) (.int .i64 si) (.bool kn) (.int .i64 lo) (.int .i64 hi) (.int .i64 la) (.int .i64 te) (.int .i64 us) (.slice aa na ac) (.slice pa np pc) (.bool hs) (.int .i64 ls) (.slice ha nh hc) (.int .i64 se) 43).below A1).below A2
 have R := (aE.new (w.alloc (.cells #[.int .i64 ni, .int .i64 mo, .int .i64 ep, .int .i64 si, .bool kn, .int .i64 lo, .int .i64 hi, .int .i64 la, .int .i64 te, .int .i64 us, .slice aa na ac, .slice pa np pc, .bool hs, .int .i64 ls, .slice ha nh hc, .int .i64 se] 43)) (.int .i64 0) (.int .i64 0) (.int .i64 0) (.int .i64 0) (.bool false) (.int .i64 0) (.int .i64 0) (.int .i64 0) (.int .i64 0) (.int .i64 0) (.slice none 0 0) (.slice none 0 0) (.bool false) (.int .i64 0) (.slice none 0 0) (.int .i64 0) 57).below A2
 have X := aE.new ((w.alloc (.cells #[.int .i64 ni, .int .i64 mo, .int .i64 ep, .int .i64 si, .bool kn, .int .i64 lo, .int .i64 hi, .int .i64 la, .int .i64 te, .int .i64 us, .slice aa na ac, .slice pa np pc, .bool hs, .int .i64 ls, .slice ha nh hc, .int .i64 se] 43)).alloc (.cells #[.int .i64 0, .int .i64 0, .int .i64 0, .int .i64 0, .bool false, .int .i64 0, .int .i64 0, .int .i64 0, .int .i64 0, .int .i64 0, .slice none 0 0, .slice none 0 0, .bool false, .int .i64 0, .slice none 0 0, .int .i64 0] 57)) (.int .i64 0) (.int .i64 0) (.int .i64 0) (.int .i64 0) (.bool false) (.int .i64 0) (.int .i64 0) (.int .i64 0) (.int .i64 0) (.int .i64 0) (.slice none 0 0) (.slice none 0 0) (.bool false) (.int .i64 0) (.slice none 0 0) (.int .i64 0) 57
 have B := (A0.trans (A1.mono A0.size)).trans (A2.mono (A0.trans (A1.mono A0.size)).size)
 have hj : w.heap.size + 3 ≤ (((w.alloc (.cells #[.int .i64 ni, .int .i64 mo, .int .i64 ep, .int .i64 si, .bool kn, .int .i64 lo, .int .i64 hi, .int .i64 la, .int .i64 te, .int .i64 us, .slice aa na ac, .slice pa np pc, .bool hs, .int .i64 ls, .slice ha nh hc, .int .i64 se] 43)).alloc (.cells #[.int .i64 0, .int .i64 0, .int .i64 0, .int .i64 0, .bool false, .int .i64 0, .int .i64 0, .int .i64 0, .int .i64 0, .int .i64 0, .slice none 0 0, .slice none 0 0, .bool false, .int .i64 0, .slice none 0 0, .int .i64 0] 57)).alloc (.cells #[.int .i64 0, .int .i64 0, .int .i64 0, .int .i64 0, .bool false, .int .i64 0, .int .i64 0, .int .i64 0, .int .i64 0, .int .i64 0, .slice none 0 0, .slice none 0 0, .bool false, .int .i64 0, .slice none 0 0, .int .i64 0] 57)).heap.size := by simp
 simp only [World.size_alloc] at R X
 clear A0 A1 A2
 have C1 := fun w' => nl mo ep si w'
 have C2 := fun w' => lR kn lo hi la w'
 have C3 := fun (w' : World) (h : Below w.heap.size w w') => lU te us aa na ac AM w' hna (sA.below h)
 have C4 := fun (w' : World) (h : Below w.heap.size w w') => lS pa np pc QM w' hnp (sP.below h)
 have C5 := fun w' => pp hs ls w'
 have C6 := fun (w' : World) (h : Below w.heap.size w w') => jG ha nh hc HM w' hnh (sH.below h)
 have l2 : ∀ a, loadCells a 2 = loadCellsFrom a 0 2 #[] := fun _ => rfl
 have l3 : ∀ a, loadCells a 3 = loadCellsFrom a 0 3 #[] := fun _ => rfl
 have l4 : ∀ a, loadCells a 4 = loadCellsFrom a 0 4 #[] := fun _ => rfl
 clear sA sP sH
 go_enter Tryz.func9, Tryz.ntmps9
 go_upto_region 2 with fail
 generalize ((w.alloc (.cells #[.int .i64 ni, .int .i64 mo, .int .i64 ep, .int .i64 si, .bool kn, .int .i64 lo, .int .i64 hi, .int .i64 la, .int .i64 te, .int .i64 us, .slice aa na ac, .slice pa np pc, .bool hs, .int .i64 ls, .slice ha nh hc, .int .i64 se] 43)).alloc (.cells #[.int .i64 0, .int .i64 0, .int .i64 0, .int .i64 0, .bool false, .int .i64 0, .int .i64 0, .int .i64 0, .int .i64 0, .int .i64 0, .slice none 0 0, .slice none 0 0, .bool false, .int .i64 0, .slice none 0 0, .int .i64 0] 57)).alloc (.cells #[.int .i64 0, .int .i64 0, .int .i64 0, .int .i64 0, .bool false, .int .i64 0, .int .i64 0, .int .i64 0, .int .i64 0, .int .i64 0, .slice none 0 0, .slice none 0 0, .bool false, .int .i64 0, .slice none 0 0, .int .i64 0] 57) = v at *
 have n0 : _ ∧ _ := N
 have x0 : _ ∧ _ := X
 go_upto_region 3 with fail
 clear n0
 clear x0
 replace X := (X.set0 (.int .i64 ni))
 replace N := (N.setO (j := w.heap.size + 2) (by omega) 0 (.int .i64 ni))
 replace R := (R.setO (j := w.heap.size + 2) (by omega) 0 (.int .i64 ni))
 replace B := (B.setCell (p := ⟨w.heap.size + 2, 0, none⟩) (by simp; try omega) (.int .i64 ni))
 replace hj : w.heap.size + 3 ≤ ((v).setCell ⟨w.heap.size + 2, 0, none⟩ (.int .i64 ni)).heap.size := by simpa using hj
 generalize (v).setCell ⟨w.heap.size + 2, 0, none⟩ (.int .i64 ni) = w1 at *
 have n0 : _ ∧ _ := N
 go_wp2_with fail
 refine (C1 _).mono ?_
 clear C1
 rintro e u2 ⟨rfl, hb⟩
 clear n0
 replace B := B.trans (hb.mono B.size)
 replace N := N.below hb
 replace R := R.below hb
 replace X := X.below hb
 replace hj := Nat.le_trans hj hb.size
 clear hb
 have n0 : _ ∧ _ := N
 have x0 : _ ∧ _ := X
 go_upto_region 4 with fail
 clear n0
 clear x0
 replace X := (((X.set1 (.int .i64 mo)).set2 (.int .i64 ep)).set3 (.int .i64 si))
 replace N := (((N.setO (j := w.heap.size + 2) (by omega) 1 (.int .i64 mo)).setO (j := w.heap.size + 2) (by omega) 2 (.int .i64 ep)).setO (j := w.heap.size + 2) (by omega) 3 (.int .i64 si))
 replace R := (((R.setO (j := w.heap.size + 2) (by omega) 1 (.int .i64 mo)).setO (j := w.heap.size + 2) (by omega) 2 (.int .i64 ep)).setO (j := w.heap.size + 2) (by omega) 3 (.int .i64 si))
 replace B := (((B.setCell (p := ⟨w.heap.size + 2, 1, none⟩) (by simp; try omega) (.int .i64 mo)).setCell (p := ⟨w.heap.size + 2, 2, none⟩) (by simp; try omega) (.int .i64 ep)).setCell (p := ⟨w.heap.size + 2, 3, none⟩) (by simp; try omega) (.int .i64 si))
 replace hj : w.heap.size + 3 ≤ ((((u2).setCell ⟨w.heap.size + 2, 1, none⟩ (.int .i64 mo)).setCell ⟨w.heap.size + 2, 2, none⟩ (.int .i64 ep)).setCell ⟨w.heap.size + 2, 3, none⟩ (.int .i64 si)).heap.size := by simpa using hj
 generalize (((u2).setCell ⟨w.heap.size + 2, 1, none⟩ (.int .i64 mo)).setCell ⟨w.heap.size + 2, 2, none⟩ (.int .i64 ep)).setCell ⟨w.heap.size + 2, 3, none⟩ (.int .i64 si) = w3 at *
 have n0 : _ ∧ _ := N
 go_wp2_with fail
 refine (C2 _).mono ?_
 clear C2
 rintro e u4 ⟨rfl, hb⟩
 clear n0
 replace B := B.trans (hb.mono B.size)
 replace N := N.below hb
 replace R := R.below hb
 replace X := X.below hb
 replace hj := Nat.le_trans hj hb.size
 clear hb
 have n0 : _ ∧ _ := N
 have x0 : _ ∧ _ := X
 go_upto_region 5 with fail
 clear n0
 clear x0
 replace X := ((((X.set4 (.bool kn)).set5 (.int .i64 lo)).set6 (.int .i64 hi)).set7 (.int .i64 la))
 replace N := ((((N.setO (j := w.heap.size + 2) (by omega) 4 (.bool kn)).setO (j := w.heap.size + 2) (by omega) 5 (.int .i64 lo)).setO (j := w.heap.size + 2) (by omega) 6 (.int .i64 hi)).setO (j := w.heap.size + 2) (by omega) 7 (.int .i64 la))
 replace R := ((((R.setO (j := w.heap.size + 2) (by omega) 4 (.bool kn)).setO (j := w.heap.size + 2) (by omega) 5 (.int .i64 lo)).setO (j := w.heap.size + 2) (by omega) 6 (.int .i64 hi)).setO (j := w.heap.size + 2) (by omega) 7 (.int .i64 la))
 replace B := ((((B.setCell (p := ⟨w.heap.size + 2, 4, none⟩) (by simp; try omega) (.bool kn)).setCell (p := ⟨w.heap.size + 2, 5, none⟩) (by simp; try omega) (.int .i64 lo)).setCell (p := ⟨w.heap.size + 2, 6, none⟩) (by simp; try omega) (.int .i64 hi)).setCell (p := ⟨w.heap.size + 2, 7, none⟩) (by simp; try omega) (.int .i64 la))
 replace hj : w.heap.size + 3 ≤ (((((u4).setCell ⟨w.heap.size + 2, 4, none⟩ (.bool kn)).setCell ⟨w.heap.size + 2, 5, none⟩ (.int .i64 lo)).setCell ⟨w.heap.size + 2, 6, none⟩ (.int .i64 hi)).setCell ⟨w.heap.size + 2, 7, none⟩ (.int .i64 la)).heap.size := by simpa using hj
 generalize ((((u4).setCell ⟨w.heap.size + 2, 4, none⟩ (.bool kn)).setCell ⟨w.heap.size + 2, 5, none⟩ (.int .i64 lo)).setCell ⟨w.heap.size + 2, 6, none⟩ (.int .i64 hi)).setCell ⟨w.heap.size + 2, 7, none⟩ (.int .i64 la) = w5 at *
 have n0 : _ ∧ _ := N
 go_wp2_with fail
 refine (C3 _ B).mono ?_
 clear C3
 rintro e u6 ⟨rfl, RW, hb⟩
 clear n0
 have hA : w.heap.size + 3 ≤ w5.heap.size + 3 := by omega
 replace B := B.trans (hb.mono B.size)
 replace N := N.below hb
 replace R := R.below hb
 replace X := X.below hb
 replace hj := Nat.le_trans hj hb.size
 clear hb
 generalize w5.heap.size + 3 = jA at *
 have HA : Hid (ax (u6) jA 88 (na * 4) (na * 4) (aA AM)) := RW
 clear RW
 have n0 : _ ∧ _ := N
 have x0 : _ ∧ _ := X
 go_upto_region 6 with fail
 clear n0
 clear x0
 replace X := (((X.set8 (.int .i64 te)).set9 (.int .i64 us)).set10 (.slice (some ⟨jA, 0, none⟩) na na))
 replace N := (((N.setO (j := w.heap.size + 2) (by omega) 8 (.int .i64 te)).setO (j := w.heap.size + 2) (by omega) 9 (.int .i64 us)).setO (j := w.heap.size + 2) (by omega) 10 (.slice (some ⟨jA, 0, none⟩) na na))
 replace R := (((R.setO (j := w.heap.size + 2) (by omega) 8 (.int .i64 te)).setO (j := w.heap.size + 2) (by omega) 9 (.int .i64 us)).setO (j := w.heap.size + 2) (by omega) 10 (.slice (some ⟨jA, 0, none⟩) na na))
 replace B := (((B.setCell (p := ⟨w.heap.size + 2, 8, none⟩) (by simp; try omega) (.int .i64 te)).setCell (p := ⟨w.heap.size + 2, 9, none⟩) (by simp; try omega) (.int .i64 us)).setCell (p := ⟨w.heap.size + 2, 10, none⟩) (by simp; try omega) (.slice (some ⟨jA, 0, none⟩) na na))
 replace HA : Hid (ax ((((u6).setCell ⟨w.heap.size + 2, 8, none⟩ (.int .i64 te)).setCell ⟨w.heap.size + 2, 9, none⟩ (.int .i64 us)).setCell ⟨w.heap.size + 2, 10, none⟩ (.slice (some ⟨jA, 0, none⟩) na na)) jA 88 (na * 4) (na * 4) (aA AM)) := (ak (ak (ak HA.out (by omega) 8 (.int .i64 te)) (by omega) 9 (.int .i64 us)) (by omega) 10 (.slice (some ⟨jA, 0, none⟩) na na))
 replace hj : w.heap.size + 3 ≤ ((((u6).setCell ⟨w.heap.size + 2, 8, none⟩ (.int .i64 te)).setCell ⟨w.heap.size + 2, 9, none⟩ (.int .i64 us)).setCell ⟨w.heap.size + 2, 10, none⟩ (.slice (some ⟨jA, 0, none⟩) na na)).heap.size := by simpa using hj
 generalize (((u6).setCell ⟨w.heap.size + 2, 8, none⟩ (.int .i64 te)).setCell ⟨w.heap.size + 2, 9, none⟩ (.int .i64 us)).setCell ⟨w.heap.size + 2, 10, none⟩ (.slice (some ⟨jA, 0, none⟩) na na) = w7 at *
 have n0 : _ ∧ _ := N
 go_wp2_with fail
 refine (C4 _ B).mono ?_
 clear C4
 rintro e u8 ⟨rfl, RW, hb⟩
 clear n0
 have hP : w.heap.size + 3 ≤ w7.heap.size := by omega
 have oP : jA < w7.heap.size := by have := ax.lt HA.out; omega
 replace HA : Hid (ax (u8) jA 88 (na * 4) (na * 4) (aA AM)) := ax.below' hb HA.out
 replace B := B.trans (hb.mono B.size)
 replace N := N.below hb
 replace R := R.below hb
 replace X := X.below hb
 replace hj := Nat.le_trans hj hb.size
 clear hb
 generalize w7.heap.size = jP at *
 have HP : Hid (ax (u8) jP 154 (np * 5) (np * 5) (am QM)) := RW
 clear RW
 have n0 : _ ∧ _ := N
 have x0 : _ ∧ _ := X
 go_upto_region 7 with fail
 clear n0
 clear x0
 replace X := (X.set11 (.slice (some ⟨jP, 0, none⟩) np np))
 replace N := (N.setO (j := w.heap.size + 2) (by omega) 11 (.slice (some ⟨jP, 0, none⟩) np np))
 replace R := (R.setO (j := w.heap.size + 2) (by omega) 11 (.slice (some ⟨jP, 0, none⟩) np np))
 replace B := (B.setCell (p := ⟨w.heap.size + 2, 11, none⟩) (by simp; try omega) (.slice (some ⟨jP, 0, none⟩) np np))
 replace HA : Hid (ax ((u8).setCell ⟨w.heap.size + 2, 11, none⟩ (.slice (some ⟨jP, 0, none⟩) np np)) jA 88 (na * 4) (na * 4) (aA AM)) := (ak HA.out (by omega) 11 (.slice (some ⟨jP, 0, none⟩) np np))
 replace HP : Hid (ax ((u8).setCell ⟨w.heap.size + 2, 11, none⟩ (.slice (some ⟨jP, 0, none⟩) np np)) jP 154 (np * 5) (np * 5) (am QM)) := (ak HP.out (by omega) 11 (.slice (some ⟨jP, 0, none⟩) np np))
 replace hj : w.heap.size + 3 ≤ ((u8).setCell ⟨w.heap.size + 2, 11, none⟩ (.slice (some ⟨jP, 0, none⟩) np np)).heap.size := by simpa using hj
 generalize (u8).setCell ⟨w.heap.size + 2, 11, none⟩ (.slice (some ⟨jP, 0, none⟩) np np) = w9 at *
 have n0 : _ ∧ _ := N
 go_wp2_with fail
 refine (C5 _).mono ?_
 clear C5
 rintro e u10 ⟨rfl, hb⟩
 clear n0
 replace HA : Hid (ax (u10) jA 88 (na * 4) (na * 4) (aA AM)) := ax.below' hb HA.out
 replace HP : Hid (ax (u10) jP 154 (np * 5) (np * 5) (am QM)) := ax.below' hb HP.out
 replace B := B.trans (hb.mono B.size)
 replace N := N.below hb
 replace R := R.below hb
 replace X := X.below hb
 replace hj := Nat.le_trans hj hb.size
 clear hb
 have n0 : _ ∧ _ := N
 have x0 : _ ∧ _ := X
 go_upto_region 8 with fail
 clear n0
 clear x0
 replace X := ((X.set12 (.bool hs)).set13 (.int .i64 ls))
 replace N := ((N.setO (j := w.heap.size + 2) (by omega) 12 (.bool hs)).setO (j := w.heap.size + 2) (by omega) 13 (.int .i64 ls))
 replace R := ((R.setO (j := w.heap.size + 2) (by omega) 12 (.bool hs)).setO (j := w.heap.size + 2) (by omega) 13 (.int .i64 ls))
 replace B := ((B.setCell (p := ⟨w.heap.size + 2, 12, none⟩) (by simp; try omega) (.bool hs)).setCell (p := ⟨w.heap.size + 2, 13, none⟩) (by simp; try omega) (.int .i64 ls))
 replace HA : Hid (ax (((u10).setCell ⟨w.heap.size + 2, 12, none⟩ (.bool hs)).setCell ⟨w.heap.size + 2, 13, none⟩ (.int .i64 ls)) jA 88 (na * 4) (na * 4) (aA AM)) := (ak (ak HA.out (by omega) 12 (.bool hs)) (by omega) 13 (.int .i64 ls))
 replace HP : Hid (ax (((u10).setCell ⟨w.heap.size + 2, 12, none⟩ (.bool hs)).setCell ⟨w.heap.size + 2, 13, none⟩ (.int .i64 ls)) jP 154 (np * 5) (np * 5) (am QM)) := (ak (ak HP.out (by omega) 12 (.bool hs)) (by omega) 13 (.int .i64 ls))
 replace hj : w.heap.size + 3 ≤ (((u10).setCell ⟨w.heap.size + 2, 12, none⟩ (.bool hs)).setCell ⟨w.heap.size + 2, 13, none⟩ (.int .i64 ls)).heap.size := by simpa using hj
 generalize ((u10).setCell ⟨w.heap.size + 2, 12, none⟩ (.bool hs)).setCell ⟨w.heap.size + 2, 13, none⟩ (.int .i64 ls) = w11 at *
 have n0 : _ ∧ _ := N
 go_wp2_with fail
 refine (C6 _ B).mono ?_
 clear C6
 rintro e u12 ⟨rfl, RW, hb⟩
 clear n0
 have hH : w.heap.size + 3 ≤ w11.heap.size := by omega
 have oH : jP < w11.heap.size := by have := ax.lt HP.out; omega
 replace HA : Hid (ax (u12) jA 88 (na * 4) (na * 4) (aA AM)) := ax.below' hb HA.out
 replace HP : Hid (ax (u12) jP 154 (np * 5) (np * 5) (am QM)) := ax.below' hb HP.out
 replace B := B.trans (hb.mono B.size)
 replace N := N.below hb
 replace R := R.below hb
 replace X := X.below hb
 replace hj := Nat.le_trans hj hb.size
 clear hb
 generalize w11.heap.size = jH at *
 have HH : Hid (ax (u12) jH 159 (nh * 2) (nh * 2) (au HM)) := RW
 clear RW
 have n0 : _ ∧ _ := N
 have x0 : _ ∧ _ := X
 go_upto_region 9 with fail
 clear n0
 clear x0
 replace X := (X.set14 (.slice (some ⟨jH, 0, none⟩) nh nh))
 replace N := (N.setO (j := w.heap.size + 2) (by omega) 14 (.slice (some ⟨jH, 0, none⟩) nh nh))
 replace R := (R.setO (j := w.heap.size + 2) (by omega) 14 (.slice (some ⟨jH, 0, none⟩) nh nh))
 replace B := (B.setCell (p := ⟨w.heap.size + 2, 14, none⟩) (by simp; try omega) (.slice (some ⟨jH, 0, none⟩) nh nh))
 replace HA : Hid (ax ((u12).setCell ⟨w.heap.size + 2, 14, none⟩ (.slice (some ⟨jH, 0, none⟩) nh nh)) jA 88 (na * 4) (na * 4) (aA AM)) := (ak HA.out (by omega) 14 (.slice (some ⟨jH, 0, none⟩) nh nh))
 replace HP : Hid (ax ((u12).setCell ⟨w.heap.size + 2, 14, none⟩ (.slice (some ⟨jH, 0, none⟩) nh nh)) jP 154 (np * 5) (np * 5) (am QM)) := (ak HP.out (by omega) 14 (.slice (some ⟨jH, 0, none⟩) nh nh))
 replace HH : Hid (ax ((u12).setCell ⟨w.heap.size + 2, 14, none⟩ (.slice (some ⟨jH, 0, none⟩) nh nh)) jH 159 (nh * 2) (nh * 2) (au HM)) := (ak HH.out (by omega) 14 (.slice (some ⟨jH, 0, none⟩) nh nh))
 replace hj : w.heap.size + 3 ≤ ((u12).setCell ⟨w.heap.size + 2, 14, none⟩ (.slice (some ⟨jH, 0, none⟩) nh nh)).heap.size := by simpa using hj
 generalize (u12).setCell ⟨w.heap.size + 2, 14, none⟩ (.slice (some ⟨jH, 0, none⟩) nh nh) = w13 at *
 have n0 : _ ∧ _ := N
 have x0 : _ ∧ _ := X
 go_upto_region 10 with fail
 clear n0
 clear x0
 replace X := (X.set15 (.int .i64 se))
 replace N := (N.setO (j := w.heap.size + 2) (by omega) 15 (.int .i64 se))
 replace R := (R.setO (j := w.heap.size + 2) (by omega) 15 (.int .i64 se))
 replace B := (B.setCell (p := ⟨w.heap.size + 2, 15, none⟩) (by simp; try omega) (.int .i64 se))
 replace HA : Hid (ax ((w13).setCell ⟨w.heap.size + 2, 15, none⟩ (.int .i64 se)) jA 88 (na * 4) (na * 4) (aA AM)) := (ak HA.out (by omega) 15 (.int .i64 se))
 replace HP : Hid (ax ((w13).setCell ⟨w.heap.size + 2, 15, none⟩ (.int .i64 se)) jP 154 (np * 5) (np * 5) (am QM)) := (ak HP.out (by omega) 15 (.int .i64 se))
 replace HH : Hid (ax ((w13).setCell ⟨w.heap.size + 2, 15, none⟩ (.int .i64 se)) jH 159 (nh * 2) (nh * 2) (au HM)) := (ak HH.out (by omega) 15 (.int .i64 se))
 replace hj : w.heap.size + 3 ≤ ((w13).setCell ⟨w.heap.size + 2, 15, none⟩ (.int .i64 se)).heap.size := by simpa using hj
 generalize (w13).setCell ⟨w.heap.size + 2, 15, none⟩ (.int .i64 se) = w14 at *
 have R1 := R.put (.int .i64 ni) (.int .i64 mo) (.int .i64 ep) (.int .i64 si) (.bool kn) (.int .i64 lo) (.int .i64 hi) (.int .i64 la) (.int .i64 te) (.int .i64 us) (.slice (some ⟨jA, 0, none⟩) na na) (.slice (some ⟨jP, 0, none⟩) np np) (.bool hs) (.int .i64 ls) (.slice (some ⟨jH, 0, none⟩) nh nh) (.int .i64 se)
 have B1 := Below.put16 B (k := w.heap.size + 1) (Nat.le_succ _) (.int .i64 ni) (.int .i64 mo) (.int .i64 ep) (.int .i64 si) (.bool kn) (.int .i64 lo) (.int .i64 hi) (.int .i64 la) (.int .i64 te) (.int .i64 us) (.slice (some ⟨jA, 0, none⟩) na na) (.slice (some ⟨jP, 0, none⟩) np np) (.bool hs) (.int .i64 ls) (.slice (some ⟨jH, 0, none⟩) nh nh) (.int .i64 se)
 replace HA : Hid (ax (((((((((((((((((w14).setCell ⟨w.heap.size + 1, 0, none⟩ (.int .i64 ni)).setCell ⟨w.heap.size + 1, 1, none⟩ (.int .i64 mo)).setCell ⟨w.heap.size + 1, 2, none⟩ (.int .i64 ep)).setCell ⟨w.heap.size + 1, 3, none⟩ (.int .i64 si)).setCell ⟨w.heap.size + 1, 4, none⟩ (.bool kn)).setCell ⟨w.heap.size + 1, 5, none⟩ (.int .i64 lo)).setCell ⟨w.heap.size + 1, 6, none⟩ (.int .i64 hi)).setCell ⟨w.heap.size + 1, 7, none⟩ (.int .i64 la)).setCell ⟨w.heap.size + 1, 8, none⟩ (.int .i64 te)).setCell ⟨w.heap.size + 1, 9, none⟩ (.int .i64 us)).setCell ⟨w.heap.size + 1, 10, none⟩ (.slice (some ⟨jA, 0, none⟩) na na)).setCell ⟨w.heap.size + 1, 11, none⟩ (.slice (some ⟨jP, 0, none⟩) np np)).setCell ⟨w.heap.size + 1, 12, none⟩ (.bool hs)).setCell ⟨w.heap.size + 1, 13, none⟩ (.int .i64 ls)).setCell ⟨w.heap.size + 1, 14, none⟩ (.slice (some ⟨jH, 0, none⟩) nh nh)).setCell ⟨w.heap.size + 1, 15, none⟩ (.int .i64 se)) jA 88 (na * 4) (na * 4) (aA AM)) := (ak (ak (ak (ak (ak (ak (ak (ak (ak (ak (ak (ak (ak (ak (ak (ak HA.out (by omega) 0 (.int .i64 ni)) (by omega) 1 (.int .i64 mo)) (by omega) 2 (.int .i64 ep)) (by omega) 3 (.int .i64 si)) (by omega) 4 (.bool kn)) (by omega) 5 (.int .i64 lo)) (by omega) 6 (.int .i64 hi)) (by omega) 7 (.int .i64 la)) (by omega) 8 (.int .i64 te)) (by omega) 9 (.int .i64 us)) (by omega) 10 (.slice (some ⟨jA, 0, none⟩) na na)) (by omega) 11 (.slice (some ⟨jP, 0, none⟩) np np)) (by omega) 12 (.bool hs)) (by omega) 13 (.int .i64 ls)) (by omega) 14 (.slice (some ⟨jH, 0, none⟩) nh nh)) (by omega) 15 (.int .i64 se))
 replace HP : Hid (ax (((((((((((((((((w14).setCell ⟨w.heap.size + 1, 0, none⟩ (.int .i64 ni)).setCell ⟨w.heap.size + 1, 1, none⟩ (.int .i64 mo)).setCell ⟨w.heap.size + 1, 2, none⟩ (.int .i64 ep)).setCell ⟨w.heap.size + 1, 3, none⟩ (.int .i64 si)).setCell ⟨w.heap.size + 1, 4, none⟩ (.bool kn)).setCell ⟨w.heap.size + 1, 5, none⟩ (.int .i64 lo)).setCell ⟨w.heap.size + 1, 6, none⟩ (.int .i64 hi)).setCell ⟨w.heap.size + 1, 7, none⟩ (.int .i64 la)).setCell ⟨w.heap.size + 1, 8, none⟩ (.int .i64 te)).setCell ⟨w.heap.size + 1, 9, none⟩ (.int .i64 us)).setCell ⟨w.heap.size + 1, 10, none⟩ (.slice (some ⟨jA, 0, none⟩) na na)).setCell ⟨w.heap.size + 1, 11, none⟩ (.slice (some ⟨jP, 0, none⟩) np np)).setCell ⟨w.heap.size + 1, 12, none⟩ (.bool hs)).setCell ⟨w.heap.size + 1, 13, none⟩ (.int .i64 ls)).setCell ⟨w.heap.size + 1, 14, none⟩ (.slice (some ⟨jH, 0, none⟩) nh nh)).setCell ⟨w.heap.size + 1, 15, none⟩ (.int .i64 se)) jP 154 (np * 5) (np * 5) (am QM)) := (ak (ak (ak (ak (ak (ak (ak (ak (ak (ak (ak (ak (ak (ak (ak (ak HP.out (by omega) 0 (.int .i64 ni)) (by omega) 1 (.int .i64 mo)) (by omega) 2 (.int .i64 ep)) (by omega) 3 (.int .i64 si)) (by omega) 4 (.bool kn)) (by omega) 5 (.int .i64 lo)) (by omega) 6 (.int .i64 hi)) (by omega) 7 (.int .i64 la)) (by omega) 8 (.int .i64 te)) (by omega) 9 (.int .i64 us)) (by omega) 10 (.slice (some ⟨jA, 0, none⟩) na na)) (by omega) 11 (.slice (some ⟨jP, 0, none⟩) np np)) (by omega) 12 (.bool hs)) (by omega) 13 (.int .i64 ls)) (by omega) 14 (.slice (some ⟨jH, 0, none⟩) nh nh)) (by omega) 15 (.int .i64 se))
 replace HH : Hid (ax (((((((((((((((((w14).setCell ⟨w.heap.size + 1, 0, none⟩ (.int .i64 ni)).setCell ⟨w.heap.size + 1, 1, none⟩ (.int .i64 mo)).setCell ⟨w.heap.size + 1, 2, none⟩ (.int .i64 ep)).setCell ⟨w.heap.size + 1, 3, none⟩ (.int .i64 si)).setCell ⟨w.heap.size + 1, 4, none⟩ (.bool kn)).setCell ⟨w.heap.size + 1, 5, none⟩ (.int .i64 lo)).setCell ⟨w.heap.size + 1, 6, none⟩ (.int .i64 hi)).setCell ⟨w.heap.size + 1, 7, none⟩ (.int .i64 la)).setCell ⟨w.heap.size + 1, 8, none⟩ (.int .i64 te)).setCell ⟨w.heap.size + 1, 9, none⟩ (.int .i64 us)).setCell ⟨w.heap.size + 1, 10, none⟩ (.slice (some ⟨jA, 0, none⟩) na na)).setCell ⟨w.heap.size + 1, 11, none⟩ (.slice (some ⟨jP, 0, none⟩) np np)).setCell ⟨w.heap.size + 1, 12, none⟩ (.bool hs)).setCell ⟨w.heap.size + 1, 13, none⟩ (.int .i64 ls)).setCell ⟨w.heap.size + 1, 14, none⟩ (.slice (some ⟨jH, 0, none⟩) nh nh)).setCell ⟨w.heap.size + 1, 15, none⟩ (.int .i64 se)) jH 159 (nh * 2) (nh * 2) (au HM)) := (ak (ak (ak (ak (ak (ak (ak (ak (ak (ak (ak (ak (ak (ak (ak (ak HH.out (by omega) 0 (.int .i64 ni)) (by omega) 1 (.int .i64 mo)) (by omega) 2 (.int .i64 ep)) (by omega) 3 (.int .i64 si)) (by omega) 4 (.bool kn)) (by omega) 5 (.int .i64 lo)) (by omega) 6 (.int .i64 hi)) (by omega) 7 (.int .i64 la)) (by omega) 8 (.int .i64 te)) (by omega) 9 (.int .i64 us)) (by omega) 10 (.slice (some ⟨jA, 0, none⟩) na na)) (by omega) 11 (.slice (some ⟨jP, 0, none⟩) np np)) (by omega) 12 (.bool hs)) (by omega) 13 (.int .i64 ls)) (by omega) 14 (.slice (some ⟨jH, 0, none⟩) nh nh)) (by omega) 15 (.int .i64 se))
 have x0 : _ ∧ _ := X
 have p0 : _ ∧ _ := R
 have hLX := aE.load (P := Tryz.prog) X
 go_wp2_with (rw [hLX])
 clear x0
 clear p0
 clear hLX X R B N hj
 generalize ((((((((((((((((w14).setCell ⟨w.heap.size + 1, 0, none⟩ (.int .i64 ni)).setCell ⟨w.heap.size + 1, 1, none⟩ (.int .i64 mo)).setCell ⟨w.heap.size + 1, 2, none⟩ (.int .i64 ep)).setCell ⟨w.heap.size + 1, 3, none⟩ (.int .i64 si)).setCell ⟨w.heap.size + 1, 4, none⟩ (.bool kn)).setCell ⟨w.heap.size + 1, 5, none⟩ (.int .i64 lo)).setCell ⟨w.heap.size + 1, 6, none⟩ (.int .i64 hi)).setCell ⟨w.heap.size + 1, 7, none⟩ (.int .i64 la)).setCell ⟨w.heap.size + 1, 8, none⟩ (.int .i64 te)).setCell ⟨w.heap.size + 1, 9, none⟩ (.int .i64 us)).setCell ⟨w.heap.size + 1, 10, none⟩ (.slice (some ⟨jA, 0, none⟩) na na)).setCell ⟨w.heap.size + 1, 11, none⟩ (.slice (some ⟨jP, 0, none⟩) np np)).setCell ⟨w.heap.size + 1, 12, none⟩ (.bool hs)).setCell ⟨w.heap.size + 1, 13, none⟩ (.int .i64 ls)).setCell ⟨w.heap.size + 1, 14, none⟩ (.slice (some ⟨jH, 0, none⟩) nh nh)).setCell ⟨w.heap.size + 1, 15, none⟩ (.int .i64 se) = v9 at *
 have hL1 := aE.load (P := Tryz.prog) R1
 exact bodyPost_ret (v := .agg #[.int .i64 ni, .int .i64 mo, .int .i64 ep, .int .i64 si, .bool kn, .int .i64 lo, .int .i64 hi, .int .i64 la, .int .i64 te, .int .i64 us, .slice (some ⟨jA, 0, none⟩) na na, .slice (some ⟨jP, 0, none⟩) np np, .bool hs, .int .i64 ls, .slice (some ⟨jH, 0, none⟩) nh nh, .int .i64 se]) (by simp (maxDischargeDepth := 6) [results, Tryz.results9, go_sem]; rw [hL1]; rfl) rfl ⟨jA, jP, jH, rfl, by omega, oP, oH, HA.out, HP.out, HH.out, B1⟩
end Go.Proofs.YtikbjljkakabdaaGreat
