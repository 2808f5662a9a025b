/- The list of an op, marked and held. -/
import Derived.Test.YtddjiamollfplaaDoorMP44
namespace Go.Proofs.YtddjiamollfplaaDoor
open Go.RowKit
set_option linter.unusedVariables false

def mkN (q : Int) (j : Nat) : Int := q + (j : Int)
theorem RwA.bases {w : World} {base : Nat} {p : Option Addr} {n c : Nat} {f : Nat → Int} (h : RwA w base p n c f) : ∀ g, p = some ⟨g, 0, none⟩ → base ≤ g ∧ g < w.heap.size := fun g e => by
 rcases h with ⟨h1, _⟩ | ⟨g', e', hg, _, h⟩
 ·rw [h1] at e; cases e
 ·rw [e'] at e; cases e; exact ⟨hg, h.lt⟩
def MkW (p : Option Addr) (w w' : World) : Prop := (∀ k A, Bo w k A → (∀ g, p = some ⟨g, 0, none⟩ → k ≠ g) → Bo w' k A) ∧ (∀ base, base ≤ w.heap.size → (∀ g, p = some ⟨g, 0, none⟩ → base ≤ g) → Below base w w')
theorem bo_but {w w' : World} {k g : Nat} {A : Array Value} (h : Bo w k A) (hb : But g w w') (hk : k ≠ g) : Bo w' k A := h.but hb hk
attribute [-go_sem] loadCells storeCells in
set_option maxRecDepth 100000 in
set_option maxHeartbeats 16000000 in
theorem markOp_any (x : OpD) (p : Option Addr) (c base : Nat) (q0 : Int) (w : World) (hn : x.n ≤ 1048576) (hq : 0 < q0) (hq1 : q0 ≤ 1073741824) (h : RwA w base p x.n c x.f) :
 Calls Tryd.prog 28 #[.agg (opV x p c), .int .i64 q0] w fun e w' => e = .returned (.int .i64 (q0 + (x.n : Int))) ∧ RwA w' base p x.n c (mkN q0) ∧ MkW p w w' := by
 have B := Below.nw w (.cells (opV x p c) 39)
 have R := Bo.new w (opV x p c) 39
 have H := h.below B
 have HB : Hid (Below w.heap.size w (w.alloc (.cells (opV x p c) 39))) := B
 clear B h
 go_enter Tryd.func28, Tryd.ntmps28
 go_upto_region 1 with fail
 generalize w.alloc (.cells (opV x p c) 39) = v0 at *
 have c6 : v0.cell? ⟨w.heap.size, 6, none⟩ = some (.slice p x.n c) := R.cell (i := 6) rfl
 rcases H with ⟨hp, hn0, hc⟩ | ⟨g, hp, hg, hc, hr⟩
 ·have CM := markIntS_zero none 0 q0 v0
  subst hp hc
  have HN0 : Hid (x.n = 0) := hn0
  rw [hn0] at c6
  clear hn0 hn
  go_wp2_with fail
  refine CM.mono ?_
  rintro e v1 ⟨rfl, rfl⟩
  go_wp2_with fail
  go_ret
  exact ⟨by rw [HN0.out]; simp, .inl ⟨rfl, HN0.out, rfl⟩, fun k A hA _ => hA.below HB.out, fun b hb _ => HB.out.mono hb⟩
 ·subst hp hc
  have CM := markIntS_row g x.n x.n x.n q0 v0 hn hq hq1 (Nat.le_refl _) (hr.zero _)
  have HG : Hid (base ≤ g) := hg
  clear hr hg
  go_wp2_with fail
  refine CM.mono ?_
  rintro e v1 ⟨rfl, hr, hb⟩
  have HR : Hid (RowF v1 g 3 x.n x.n (mkInt q0) ∧ But g v0 v1) := ⟨hr, hb⟩
  clear hr hb CM
  go_wp2_with fail
  go_ret
  exact ⟨rfl, .inr ⟨g, rfl, HG.out, rfl, HR.out.1⟩, fun k A hA hne => bo_but (hA.below HB.out) HR.out.2 (hne g rfl), fun b hb hbg => (HB.out.mono hb).trans (HR.out.2.below (hbg g rfl) (Nat.le_trans hb HB.out.size))⟩
attribute [-go_sem] loadCells storeCells in
set_option maxRecDepth 100000 in
set_option maxHeartbeats 16000000 in
theorem heldOp_any (x : OpD) (p : Option Addr) (c base : Nat) (q0 : Int) (w : World) (hn : x.n ≤ 1048576) (hq : 0 < q0) (hq1 : q0 ≤ 1073741824) (h : RwA w base p x.n c (mkN q0)) :
 Calls Tryd.prog 29 #[.agg (opV x p c), .int .i64 q0] w fun e w' => e = .returned (.int .i64 (q0 + (x.n : Int))) ∧ Below w.heap.size w w' := by
 have B := Below.nw w (.cells (opV x p c) 39)
 have R := Bo.new w (opV x p c) 39
 have H : SrcC (w.alloc (.cells (opV x p c) 39)) p (x.n * 1) (mkInt q0) := by (rw [Nat.mul_one]; exact (h.below B).lsa.ls.src)
 clear h
 go_enter Tryd.func29, Tryd.ntmps29
 go_upto_region 1 with fail
 generalize w.alloc (.cells (opV x p c) 39) = v0 at *
 have c6 : v0.cell? ⟨w.heap.size, 6, none⟩ = some (.slice p x.n c) := R.cell (i := 6) rfl
 have CH := heldIntS_any p x.n c q0 v0 hn hq hq1 H
 rw [Int.mul_one] at CH
 clear H
 have h0 : ¬ q0 + (x.n : Int) < 0 := by omega
 go_wp2_with fail
 refine CH.mono ?_
 rintro e v1 ⟨rfl, rfl⟩
 go_wp2_with fail
 go_ret
 exact ⟨rfl, B⟩

end Go.Proofs.YtddjiamollfplaaDoor
