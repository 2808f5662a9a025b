/- The contract of a book: ask. -/
import Derived.Test.YtgempaoamamaeaaGreatM0
import Derived.Test.YtgempaoamamaeaaGreatM21
import Derived.Test.YtgempaoamamaeaaGreatM59
namespace Go.Proofs.YtgempaoamamaeaaGreat
open Go.RowKit
set_option linter.unusedVariables false
def Bf4 (w : World) (j : Nat) (x0 x1 x2 x3 : Int) : Prop := Bk4 w j x0 x1 x2 x3 ∧ w.frozen? ⟨j, 0, none⟩ = false ∧ w.frozen? ⟨j, 1, none⟩ = false ∧ w.frozen? ⟨j, 2, none⟩ = false ∧ w.frozen? ⟨j, 3, none⟩ = false
theorem Bf4.below {w w' : World} {j : Nat} {x0 x1 x2 x3 : Int} (h : Bf4 w j x0 x1 x2 x3) (hb : Below w.heap.size w w') : Bf4 w' j x0 x1 x2 x3 :=
  ⟨h.1.below hb, by rw [hb.frozen (p := ⟨j, 0, none⟩) h.1.1]; exact h.2.1, by rw [hb.frozen (p := ⟨j, 1, none⟩) h.1.1]; exact h.2.2.1, by rw [hb.frozen (p := ⟨j, 2, none⟩) h.1.1]; exact h.2.2.2.1, by rw [hb.frozen (p := ⟨j, 3, none⟩) h.1.1]; exact h.2.2.2.2⟩
theorem Bf4.but {w w' : World} {j q : Nat} {x0 x1 x2 x3 : Int} (h : Bf4 w j x0 x1 x2 x3) (hb : But q w w') (hq : j ≠ q) : Bf4 w' j x0 x1 x2 x3 :=
  ⟨h.1.but hb hq, by rw [hb.frozen h.1.1 hq]; exact h.2.1, by rw [hb.frozen h.1.1 hq]; exact h.2.2.1, by rw [hb.frozen h.1.1 hq]; exact h.2.2.2.1, by rw [hb.frozen h.1.1 hq]; exact h.2.2.2.2⟩
theorem Bf4.drew {w : World} {j : Nat} {x0 x1 x2 x3 : Int} (h : Bf4 w j x0 x1 x2 x3) : Bf4 w.drew j x0 x1 x2 x3 := h
theorem Bf4.new (w : World) (x0 x1 x2 x3 : Int) (T : TypeId) : Bf4 (w.alloc (.cells #[.int .i64 x0, .int .i64 x1, .int .i64 x2, .int .i64 x3] T)) w.heap.size x0 x1 x2 x3 := ⟨Bk4.new w x0 x1 x2 x3 T, by simp, by simp, by simp, by simp⟩
def put4 (w : World) (j : Nat) (x0 x1 x2 x3 : Int) : World := (((w.setCell ⟨j, 0, none⟩ (.int .i64 x0)).setCell ⟨j, 1, none⟩ (.int .i64 x1)).setCell ⟨j, 2, none⟩ (.int .i64 x2)).setCell ⟨j, 3, none⟩ (.int .i64 x3)
theorem put4_but (w : World) (j : Nat) (x0 x1 x2 x3 : Int) : But j w (put4 w j x0 x1 x2 x3) := ((((But.refl j w).setCell _ _).setCell _ _).setCell _ _).setCell _ _
theorem Bf4.set {w : World} {j : Nat} {x0 x1 x2 x3 : Int} (h : Bf4 w j x0 x1 x2 x3) (y0 y1 y2 y3 : Int) : Bf4 (put4 w j y0 y1 y2 y3) j y0 y1 y2 y3 := by
  obtain ⟨⟨h0, c0, c1, c2, c3⟩, f0, f1, f2, f3⟩ := h
  have n0 : ∀ (W : World) (i k : Nat) (u : Value), i ≠ k → (W.setCell ⟨j, i, none⟩ u).cell? ⟨j, k, none⟩ = W.cell? ⟨j, k, none⟩ := fun W i k u hik => World.cell?_setCell_other _ _ _ _ (by intro e; exact hik (congrArg Addr.off e))
  refine ⟨⟨by simpa [put4] using h0, ?_, ?_, ?_, ?_⟩, by simpa [put4] using f0, by simpa [put4] using f1, by simpa [put4] using f2, by simpa [put4] using f3⟩
  · unfold put4; rw [n0 _ _ _ _ (by decide), n0 _ _ _ _ (by decide), n0 _ _ _ _ (by decide)]; exact World.cell?_setCell_same _ _ _ c0
  · unfold put4; rw [n0 _ _ _ _ (by decide), n0 _ _ _ _ (by decide)]; exact World.cell?_setCell_same _ _ _ (by rw [n0 _ _ _ _ (by decide)]; exact c1)
  · unfold put4; rw [n0 _ _ _ _ (by decide)]; exact World.cell?_setCell_same _ _ _ (by rw [n0 _ _ _ _ (by decide), n0 _ _ _ _ (by decide)]; exact c2)
  · unfold put4; exact World.cell?_setCell_same _ _ _ (by rw [n0 _ _ _ _ (by decide), n0 _ _ _ _ (by decide), n0 _ _ _ _ (by decide)]; exact c3)
theorem nn_yes {ep us : Int} (h1 : 0 ≤ ep ∧ ep ≤ 100000) (h2 : 0 ≤ us ∧ us < 1000) : nnB ep us = true ∧ nnI ep us = ep * 1000 + us := by
  have h : nnB ep us = true := by rw [nnB, epB, kB]; simp; omega
  exact ⟨h, by rw [nnI, h]; rfl⟩
set_option maxRecDepth 100000 in
set_option maxHeartbeats 8000000 in
theorem ask_yes (bx bm n base : Nat) (ep us x y z nn : Int) (F : Int → Option KT) (w : World) (X : Bx3 w bx (.int .i64 ep) (.int .i64 us) (.map (some bm))) (MP : MapK w bm n F) (hne : bx ≠ bm) (h1 : base ≤ bx) (h2 : base ≤ bm) (h3 : base ≤ w.heap.size) (hep : 0 ≤ ep ∧ ep ≤ 100000) (hus : 0 ≤ us ∧ us < 1000) (hn : n ≤ 1000) (hnn : ep * 1000 + us = nn) :
    Calls Tryz.prog 174 #[.pointer (some ⟨bx, 0, none⟩), .int .i64 x, .int .i64 y, .int .i64 z] w fun e w' => e = .returned (.tuple #[.agg #[.int .i64 nn, .int .i64 x, .int .i64 y, .int .i64 z], .bool true]) ∧ Bx3 w' bx (.int .i64 ep) (.int .i64 (us + 1)) (.map (some bm)) ∧ MapK w' bm (n + 1) (fun q => if q = nn then some (kT nn x y z) else F q) ∧ Below base w w' := by
  have HB : nnB ep us = true := (nn_yes hep hus).1
  have HI : nnI ep us = nn := (nn_yes hep hus).2.trans hnn
  have hwf : (Lit.int .i64 nn).wf = true := by simp only [Lit.wf, Bool.and_eq_true, decide_eq_true_eq]; exact ⟨by show (-9223372036854775808 : Int) ≤ nn; omega, by show nn ≤ (9223372036854775807 : Int); omega⟩
  have huw : IntKind.i64.wrap (us + 1) = us + 1 := Go.IntWalk.i64_in _ ⟨by omega, by omega⟩
  clear hep hus hnn
  have A0 := Below.nw w (.cells #[.int .i64 0, .int .i64 0, .int .i64 0, .int .i64 0] 125)
  have R := Bf4.new w 0 0 0 0 125
  have B := A0
  have hbx := X.1
  have hbm := MP.lt
  replace X := X.below A0
  replace MP := MP.below A0
  clear A0
  go_enter Tryz.func174, Tryz.ntmps174
  go_upto_region 1 with fail
  generalize w.alloc (.cells #[.int .i64 0, .int .i64 0, .int .i64 0, .int .i64 0] 125) = wa at *
  obtain ⟨x0, x1, x2, x3, -, -, -⟩ := id X
  refine wp_region_held_drew (S := (fun w' => w'.cell? ⟨bx, 0, none⟩ = some (.int .i64 ep) ∧ w'.cell? ⟨bx, 1, none⟩ = some (.int .i64 us))) (by kernel_rfl) ?_ (fun hHeld => ?_)
  · first | exact ⟨x1, x2⟩ | (simp (maxDischargeDepth := 6) [go_sem, *]; done)
  clear x0 x1 x2 x3
  replace X := X.drew
  replace MP := MP.drew
  replace R := R.drew
  replace B := Below.drew B
  generalize wa.drew = wa at *
  obtain ⟨x0, x1, x2, x3, -, -, -⟩ := id X
  refine zTk 0 ?_
  (try simp only [Act.put, zSb, zS0, zS1])
  refine zTk 1 ?_
  (try simp only [Act.put, zSb, zS0, zS1])
  refine zTk 2 ?_
  (try simp only [Act.put, zSb, zS0, zS1])
  refine zTk 3 ?_
  (try simp only [Act.put, zSb, zS0, zS1])
  refine zTk 4 ?_
  (try simp only [Act.put, zSb, zS0, zS1])
  refine zTk 5 ?_
  (try simp only [Act.put, zSb, zS0, zS1])
  refine zTk 6 ?_
  (try simp only [Act.put, zSb, zS0, zS1])
  refine zTk 7 ?_
  (try simp only [Act.put, zSb, zS0, zS1])
  refine wpAnyH_ready (rs := [8]) (by kernel_rfl) (by simp) ?_
  refine AllReadyH.cons (by rw [List.getElem?_toArray]; rfl) (fun K hK => ?_) AllReadyH.nil
  go_simp
  refine (implNonceOf_any _ _ _).mono ?_; rintro e w' ⟨rfl, rfl⟩; rw [HB, HI]
  (try go_wp2_with fail)
  refine hK.out _ _ ?_ (fun hHeld => ?_)
  · first | exact ⟨x1, x2⟩ | (simp (maxDischargeDepth := 6) [go_sem, *]; done)
  clear hK K
  (try simp only [Act.put, zSb, zS0, zS1])
  refine zTk 9 ?_
  (try simp only [Act.put, zSb, zS0, zS1])
  refine zTk 10 ?_
  (try simp only [Act.put, zSb, zS0, zS1])
  refine zTk 11 ?_
  (try simp only [Act.put, zSb, zS0, zS1])
  refine zTk 12 ?_
  (try simp only [Act.put, zSb, zS0, zS1])
  refine zTk 13 ?_
  (try simp only [Act.put, zSb, zS0, zS1])
  refine wpAnyH_done (by kernel_rfl) ?_ _
  clear x0 x1 x2 x3
  have hlt1 : w.heap.size < wa.heap.size := R.1.1
  have A1 := Below.nw wa (.cells #[.int .i64 nn, .int .i64 x, .int .i64 y, .int .i64 z] 125)
  have Kx := Bf4.new wa nn x y z 125
  replace X := X.below A1
  replace MP := MP.below A1
  replace R := R.below A1
  replace B := B.trans (A1.mono B.size)
  clear A1
  go_upto_region 5 with fail
  generalize hbk : wa.heap.size = bk at *
  generalize wa.alloc (.cells #[.int .i64 nn, .int .i64 x, .int .i64 y, .int .i64 z] 125) = wb at *
  obtain ⟨x0, x1, x2, x3, -, -, -⟩ := id X
  obtain ⟨⟨k0, k1, k2, k3, k4⟩, -, -, -, -⟩ := id Kx
  refine wp_region_held_drew (S := (fun w' => w'.cell? ⟨bx, 2, none⟩ = some (.map (some bm)) ∧ w'.cell? ⟨bk, 0, none⟩ = some (.int .i64 nn) ∧ w'.cell? ⟨bk, 1, none⟩ = some (.int .i64 x) ∧ w'.cell? ⟨bk, 2, none⟩ = some (.int .i64 y) ∧ w'.cell? ⟨bk, 3, none⟩ = some (.int .i64 z))) (by kernel_rfl) ?_ (fun hHeld => ?_)
  · first | exact ⟨x3, k1, k2, k3, k4⟩ | (simp (maxDischargeDepth := 6) [go_sem, *]; done)
  clear x0 x1 x2 x3
  clear k0 k1 k2 k3 k4
  replace X := X.drew
  replace MP := MP.drew
  replace R := R.drew
  replace Kx := Kx.drew
  replace B := Below.drew B
  generalize wb.drew = v at *
  obtain ⟨x0, x1, x2, x3, -, -, -⟩ := id X
  obtain ⟨⟨k0, k1, k2, k3, k4⟩, -, -, -, -⟩ := id Kx
  obtain ⟨w10, hup, MP1, hg⟩ := MP.put hwf (by unfold maxLen; omega) (kT nn x y z)
  simp only [kv, kT] at hup
  refine zTk 0 ?_
  (try simp only [Act.put, zSb, zS0, zS1])
  refine zTk 1 ?_
  (try simp only [Act.put, zSb, zS0, zS1])
  refine zTk 2 ?_
  (try simp only [Act.put, zSb, zS0, zS1])
  refine zTk 3 ?_
  (try simp only [Act.put, zSb, zS0, zS1])
  refine zTk 4 ?_
  (try simp only [Act.put, zSb, zS0, zS1])
  refine zTk 5 ?_
  (try simp only [Act.put, zSb, zS0, zS1])
  refine wpAnyH_ready (rs := [6]) (by kernel_rfl) (by simp) ?_
  refine (AllReadyH.cons (by rw [List.getElem?_toArray]; rfl) (fun K hK => ?_) AllReadyH.nil)
  go_simp
  clear x0 x1 x2 x3; clear k0 k1 k2 k3 k4 hup MP; (have PB := But.ofGrownK hg); (replace X := X.but PB hne); (replace R := R.but PB (by omega)); (replace Kx := Kx.but PB (by omega)); (have B1 : Below base w w10 := (B.mono h3).trans (PB.below h2 (Nat.le_trans h3 B.size))); clear hg PB; obtain ⟨x0, x1, x2, x3, -, -, -⟩ := id X; obtain ⟨⟨k0, k1, k2, k3, k4⟩, -, -, -, -⟩ := id Kx
  refine hK.out _ _ ?_ (fun hHeld => ?_)
  · first | exact ⟨x3, k1, k2, k3, k4⟩ | (simp (maxDischargeDepth := 6) [go_sem, *]; done)
  clear hK K
  (try simp only [Act.put, zSb, zS0, zS1])
  refine wpAnyH_done (by kernel_rfl) ?_ _
  have hb10 : base ≤ w10.heap.size := Nat.le_trans h3 B1.size
  have P6 := But.oneK w10 bx 1 (.int .i64 (us + 1))
  have X6 := X.set1 (.int .i64 (us + 1))
  have MP6 := MP1.but P6 (fun e => hne e.symm)
  have R6 := R.but P6 (by omega)
  have K6 := Kx.but P6 (by omega)
  have B6 := B1.trans (P6.below h1 hb10)
  obtain ⟨u0, u1, u2, u3, u4, u5, u6⟩ := X
  clear x0 x1 x2 x3
  clear k0 k1 k2 k3 k4 R Kx MP1
  go_upto_region 7 with fail
  clear u0 u1 u2 u3 u4 u5 u6 P6
  generalize w10.setCell ⟨bx, 1, none⟩ (.int .i64 (us + 1)) = w11 at *
  have P7 := put4_but w11 w.heap.size nn x y z
  have RQ := R6.set nn x y z
  have XQ := X6.but P7 (by omega)
  have MQ := MP6.but P7 (by omega)
  have BQ := B6.trans (P7.below h3 (Nat.le_trans h3 B6.size))
  obtain ⟨⟨r0, r1, r2, r3, r4⟩, r5, r6, r7, r8⟩ := R6
  obtain ⟨⟨k0, k1, k2, k3, k4⟩, -, -, -, -⟩ := K6
  clear X6 MP6 P7
  go_wp2_with fail
  unfold put4 at RQ XQ MQ BQ
  generalize (((w11.setCell ⟨w.heap.size, 0, none⟩ (.int .i64 nn)).setCell ⟨w.heap.size, 1, none⟩ (.int .i64 x)).setCell ⟨w.heap.size, 2, none⟩ (.int .i64 y)).setCell ⟨w.heap.size, 3, none⟩ (.int .i64 z) = wq at *
  obtain ⟨⟨q0, q1, q2, q3, q4⟩, -, -, -, -⟩ := RQ
  exact bodyPost_ret (v := .tuple #[.agg #[.int .i64 nn, .int .i64 x, .int .i64 y, .int .i64 z], .bool true]) (by simp (maxDischargeDepth := 6) [results, Tryz.results174, go_sem, q1, q2, q3, q4]) rfl ⟨rfl, XQ, MQ, BQ⟩
end Go.Proofs.YtgempaoamamaeaaGreat
