/- What the laws are handed: arrays that read as a node. A configuration as data; its contracts, told of arrays of cells. What the laws are handed: arrays that read as a configuration. A node, marked and held against its marks (the laws). A configuration, marked (the laws). Plans in the program: which are right, how long a round is, which round a time lies in. CfgOk in the program, over arrays of cells. -/
import Derived.Test.YtddijpjgkifngaaGreatM18
import Derived.Test.YtddijpjgkifngaaGreatM20
import Derived.Test.YtddijpjgkifngaaGreatM22
namespace Go.Proofs.YtddijpjgkifngaaGreat
open Go.RowKit
set_option linter.unusedVariables false
def wfX (x : NdX) : Prop := ∀ i, i < x.na → (Lit.int .i64 (x.AM i).1).wf = true
def NdW (w : World) (A : Array Value) (x : NdX) : Prop := ∃ aa ac pa pc ha hc, A = ndV x aa ac pa pc ha hc ∧ (x.na ≤ maxLen ∧ x.np ≤ maxLen ∧ x.nh ≤ maxLen) ∧ SrcC w aa (x.na * 4) (MFAsk x.AM) ∧ SrcC w pa (x.np * 5) (MFPeer x.QM) ∧ SrcC w ha (x.nh * 2) (MFIval x.HM)
theorem NdS.weak {w : World} {A : Array Value} {x : NdX} (h : NdS w A x) : NdW w A x := by
 obtain ⟨aa, ac, pa, pc, ha, hc, e, hl, h1, h2, h3⟩ := h
 exact ⟨aa, ac, pa, pc, ha, hc, e, hl, h1.src, h2.src, h3.src⟩
theorem NdW.below {w w' : World} {A : Array Value} {x : NdX} (h : NdW w A x) (hb : Below w.heap.size w w') : NdW w' A x := by
 obtain ⟨aa, ac, pa, pc, ha, hc, e, hl, h1, h2, h3⟩ := h
 exact ⟨aa, ac, pa, pc, ha, hc, e, hl, h1.below hb, h2.below hb, h3.below hb⟩
theorem NdW.size {w : World} {A : Array Value} {x : NdX} (h : NdW w A x) : A.size = 16 := by
 obtain ⟨aa, ac, pa, pc, ha, hc, e, _⟩ := h
 rw [e]; rfl
theorem toNodeW (A : Array Value) (x : NdX) (w : World) (h : NdW w A x) (hb : x.na ≤ 1048576 ∧ x.np ≤ 1048576 ∧ x.nh ≤ 1048576) :
 Calls Tryz.prog 95 #[.agg A] w fun e w' => ∃ R, e = .returned (.agg R) ∧ NdO w' w.heap.size w'.heap.size R x ∧ Below w.heap.size w w' := by
 obtain ⟨aa, ac, pa, pc, ha, hc, rfl, hl, h1, h2, h3⟩ := h
 refine (toNode_any x.ni x.mo x.ep x.si x.kn x.lo x.hi x.la x.te x.us aa x.na ac x.AM pa x.np pc x.QM x.hs x.ls ha x.nh hc x.HM x.se w hb.1 h1 hb.2.1 h2 hb.2.2 h3).mono ?_
 rintro e w' ⟨jA, jP, jH, rfl, q1, q2, q3, r1, r2, r3, hB⟩
 exact ⟨_, rfl, ⟨some ⟨jA, 0, none⟩, x.na, some ⟨jP, 0, none⟩, x.np, some ⟨jH, 0, none⟩, x.nh, rfl, hb, r1.rwo hb.1 q1, r2.rwo hb.2.1 (by omega), r3.rwo hb.2.2 (by omega)⟩, hB⟩
end Go.Proofs.YtddijpjgkifngaaGreat
namespace Go.Proofs.YtddijpjgkifngaaGreat
open Go.RowKit
set_option linter.unusedVariables false
structure CfX where
 dn : Int
 dd : Int
 li : Int
 le : Int
 pt : Int
 ag : Int
 ke : Int
 lg : Int
 s : Int
 g : Int
 PM : Nat → SlT
 m : Nat
def cfV (y : CfX) (p : Option Addr) (d : Nat) : Array Value :=
 #[.int .i64 y.dn, .int .i64 y.dd, .int .i64 y.li, .int .i64 y.le, .int .i64 y.pt, .int .i64 y.ag, .int .i64 y.ke, .int .i64 y.lg, .int .i64 y.s, .int .i64 y.g, .slice p y.m d]
def CfS (w : World) (A : Array Value) (y : CfX) : Prop := ∃ p d, A = cfV y p d ∧ y.m ≤ maxLen ∧ RwO w p y.m d 2 (MFSlot y.PM)
theorem CfS.below {w w' : World} {A : Array Value} {y : CfX} (h : CfS w A y) (hb : Below w.heap.size w w') : CfS w' A y := by
 obtain ⟨p, d, e, hl, h1⟩ := h
 exact ⟨p, d, e, hl, h1.below hb⟩
theorem CfS.size {w : World} {A : Array Value} {y : CfX} (h : CfS w A y) : A.size = 11 := by
 obtain ⟨p, d, e, _⟩ := h
 rw [e]; rfl
theorem CfS.one {w : World} {A : Array Value} {y : CfX} (h : CfS w A y) : ∀ u ∈ A.toList, u.oneCell' = true := by
 obtain ⟨p, d, e, _⟩ := h
 rw [e]
 intro u hu
 simp only [cfV, List.mem_cons, List.not_mem_nil, or_false] at hu
 rcases hu with h | h | h | h | h | h | h | h | h | h | h <;> (subst h; rfl)
def CfO (w : World) (l u : Nat) (A : Array Value) (y : CfX) : Prop := ∃ p d, A = cfV y p d ∧ y.m ≤ 1048576 ∧ Rwo w l u 173 2 p y.m d (MFSlot y.PM)
theorem CfO.below {w w' : World} {l u : Nat} {A : Array Value} {y : CfX} (h : CfO w l u A y) (hb : Below w.heap.size w w') : CfO w' l u A y := by
 obtain ⟨p, d, e, hl, h1⟩ := h
 exact ⟨p, d, e, hl, h1.below hb⟩
theorem CfO.btw {w w' : World} {l u l' u' : Nat} {A : Array Value} {y : CfX} (h : CfO w l u A y) (hb : Btw l' u' w w') (ho : u ≤ l' ∨ u' ≤ l) : CfO w' l u A y := by
 obtain ⟨p, d, e, hl, h1⟩ := h
 exact ⟨p, d, e, hl, h1.btw hb ho⟩
theorem CfO.src {w : World} {l u : Nat} {A : Array Value} {y : CfX} (h : CfO w l u A y) : CfS w A y := by
 obtain ⟨p, d, e, hl, h1⟩ := h
 exact ⟨p, d, e, by unfold maxLen; omega, h1.rw⟩
theorem CfO.size {w : World} {l u : Nat} {A : Array Value} {y : CfX} (h : CfO w l u A y) : A.size = 11 := h.src.size
theorem CfO.one {w : World} {l u : Nat} {A : Array Value} {y : CfX} (h : CfO w l u A y) : ∀ v ∈ A.toList, v.oneCell' = true := h.src.one
def cokX (y : CfX) : Bool := cfB y.dn y.dd y.li y.le y.pt y.ag y.ke y.lg y.s y.g y.PM y.m
theorem specCfgOkX (A : Array Value) (y : CfX) (w : World) (h : CfS w A y) :
 Calls Tryz.prog 41 #[.agg A] w fun e w' => e = .returned (.bool (cokX y)) ∧ Below w.heap.size w w' := by
 obtain ⟨p, d, rfl, hl, h1⟩ := h
 exact specCfgOk_any y.dn y.dd y.li y.le y.pt y.ag y.ke y.lg y.s y.g p y.m d y.PM w hl h1.src
end Go.Proofs.YtddijpjgkifngaaGreat
namespace Go.Proofs.YtddijpjgkifngaaGreat
open Go.RowKit
set_option linter.unusedVariables false
def CfW (w : World) (A : Array Value) (y : CfX) : Prop := ∃ p d, A = cfV y p d ∧ y.m ≤ maxLen ∧ SrcC w p (y.m * 2) (MFSlot y.PM)
theorem CfS.weak {w : World} {A : Array Value} {y : CfX} (h : CfS w A y) : CfW w A y := by
 obtain ⟨p, d, e, hl, h1⟩ := h
 exact ⟨p, d, e, hl, h1.src⟩
theorem CfW.below {w w' : World} {A : Array Value} {y : CfX} (h : CfW w A y) (hb : Below w.heap.size w w') : CfW w' A y := by
 obtain ⟨p, d, e, hl, h1⟩ := h
 exact ⟨p, d, e, hl, h1.below hb⟩
theorem CfW.size {w : World} {A : Array Value} {y : CfX} (h : CfW w A y) : A.size = 11 := by
 obtain ⟨p, d, e, _⟩ := h
 rw [e]; rfl
theorem toCfgW (A : Array Value) (y : CfX) (w : World) (h : CfW w A y) (hb : y.m ≤ 1048576) :
 Calls Tryz.prog 15 #[.agg A] w fun e w' => ∃ R, e = .returned (.agg R) ∧ CfO w' w.heap.size w'.heap.size R y ∧ Below w.heap.size w w' := by
 obtain ⟨p, d, rfl, hl, h1⟩ := h
 refine (toCfg_any y.dn y.dd y.li y.le y.pt y.ag y.ke y.lg y.s y.g p y.m d y.PM w hb h1).mono ?_
 rintro e w' ⟨jx, rfl, q1, r1, hB⟩
 exact ⟨_, rfl, ⟨some ⟨jx, 0, none⟩, y.m, rfl, hb, r1.rwo hb q1⟩, hB⟩
theorem szCfgW (A : Array Value) (y : CfX) (Z : Int) (w : World) (h : CfW w A y) (h0 : 0 ≤ Z) (h1 : Z ≤ 1048576) :
 Calls Tryz.prog 13 #[.agg A, .int .i64 Z] w fun e w' => ∃ L : Int, e = .returned (.int .i64 L) ∧ (0 ≤ L → y.m ≤ 1048576 ∧ L ≤ 1048576) ∧ Below w.heap.size w w' := by
 obtain ⟨p, d, rfl, hl, r1⟩ := h
 exact szCfg_at y.dn y.dd y.li y.le y.pt y.ag y.ke y.lg y.s y.g p y.m d y.PM Z w hl h0 h1
end Go.Proofs.YtddijpjgkifngaaGreat
namespace Go.Proofs.YtddijpjgkifngaaGreat
open Go.RowKit
set_option linter.unusedVariables false
theorem bel_grownZ {w w' : World} (h : Below w.heap.size w w') : w.grownBy w' none := ⟨h.os, h.tape, h.output, h.size, fun k hk _ => h.block k hk⟩
theorem grownZ {w v w' : World} {o : Option Nat} (h : Below w.heap.size w v) (k : v.grownBy w' o) : w.grownBy w' o :=
 ⟨k.os.trans h.os, k.tape.trans h.tape, k.output.trans h.output, Nat.le_trans h.size k.size, fun i hi hne => (k.block i (Nat.lt_of_lt_of_le hi h.size) hne).trans (h.block i hi)⟩
theorem markAskS_ownZ (a : Option Addr) (n c base : Nat) (q0 : Int) (xs : List Value) (w : World) (hn : n ≤ 1048576) (hq : 0 < q0) (hq1 : q0 ≤ 1073741824) (h : w.ownsRow base 160 4 (.slice a n c) n xs) :
 Calls Tryz.prog 118 #[.slice a n c, .int .i64 q0] w fun e w' => e = .returned (.int .i64 (q0 + (n : Int) * 4)) ∧ SrcC w' a (n * 4) (mkAsk q0) ∧ w.grownBy w' (Value.slice a n c).ownBlock := by
 rcases h.2 with ⟨he, h0⟩ | ⟨g, cap, cur, he, _⟩
 ·simp at he
  obtain ⟨rfl, rfl, rfl⟩ := he
  exact (markAskS_zero none 0 q0 w).mono fun e w' ⟨h1, h2⟩ => ⟨by rw [h1]; simp, .inl (by omega), h2 ▸ bel_grownZ (Below.refl _ _)⟩
 ·simp at he
  obtain ⟨rfl, rfl⟩ := he
  obtain ⟨h1, h2, _, h3⟩ := ownF_row (mkAsk q0) h
  exact (markAskS_row g (c * 4) n c q0 w hn hq hq1 (Nat.mul_le_mul_right _ h2) h3).mono fun e w' ⟨r1, r2, r3⟩ => ⟨r1, .inr ⟨g, 0, rfl, r2.cs (Nat.mul_le_mul_right _ h2)⟩, r3.grK⟩
end Go.Proofs.YtddijpjgkifngaaGreat
namespace Go.Proofs.YtddijpjgkifngaaGreat
open Go.RowKit
set_option linter.unusedVariables false
theorem markSlotS_ownZ (a : Option Addr) (n c base : Nat) (q0 : Int) (xs : List Value) (w : World) (hn : n ≤ 1048576) (hq : 0 < q0) (hq1 : q0 ≤ 1073741824) (h : w.ownsRow base 173 2 (.slice a n c) n xs) :
 Calls Tryz.prog 117 #[.slice a n c, .int .i64 q0] w fun e w' => e = .returned (.int .i64 (q0 + (n : Int) * 2)) ∧ w.grownBy w' (Value.slice a n c).ownBlock := by
 rcases h.2 with ⟨he, h0⟩ | ⟨g, cap, cur, he, _⟩
 ·simp at he
  obtain ⟨rfl, rfl, rfl⟩ := he
  exact (markSlotS_zero none 0 q0 w).mono fun e w' ⟨h1, h2⟩ => ⟨by rw [h1]; simp, h2 ▸ bel_grownZ (Below.refl _ _)⟩
 ·simp at he
  obtain ⟨rfl, rfl⟩ := he
  obtain ⟨h1, h2, _, h3⟩ := ownF_row (mkSlot q0) h
  exact (markSlotS_row g (c * 2) n c q0 w hn hq hq1 (Nat.mul_le_mul_right _ h2) h3).mono fun e w' ⟨r1, _, r3⟩ => ⟨r1, r3.grK⟩
set_option maxHeartbeats 2000000 in
theorem markPlan_q (s g : Int) (a : Option Addr) (n c base : Nat) (q0 : Int) (xs : List Value) (w : World) (hn : n ≤ 1048576) (hq : 0 < q0) (hq1 : q0 ≤ 1073741824) (h : w.ownsRow base 173 2 (.slice a n c) n xs) :
 Calls Tryz.prog 65 #[.agg #[.int .i64 s, .int .i64 g, .slice a n c], .int .i64 q0] w fun e w' => e = .returned (.int .i64 (q0 + (n : Int) * 2)) ∧ w.grownBy w' (Value.slice a n c).ownBlock := by
 have A0 := Below.nw w (.cells #[.int .i64 s, .int .i64 g, .slice a n c] 43)
 have C := markSlotS_ownZ a n c base q0 xs _ hn hq hq1 (World.ownsRow.alloc h (.cells #[.int .i64 s, .int .i64 g, .slice a n c] 43))
 clear h
 go_enter Tryz.func65, Tryz.ntmps65
 go_wp2_with fail
 refine C.mono ?_
 rintro e w1 ⟨rfl, hg⟩
 have G := grownZ A0 hg
 go_wp2_with fail
 go_ret
 exact ⟨rfl, G⟩
attribute [-go_sem] loadCells in
set_option maxRecDepth 100000 in
set_option maxHeartbeats 4000000 in
theorem markCfgX (A : Array Value) (y : CfX) (q : Int) (l u : Nat) (w : World) (h : CfO w l u A y) (hq : 0 < q) (hq1 : q ≤ 1048576) :
 Calls Tryz.prog 20 #[.agg A, .int .i64 q] w fun e w' => e = .returned (.int .i64 (q + (y.m : Int) * 2)) ∧ y.m ≤ 1048576 ∧ Btw l u w w' := by
 obtain ⟨p, d, rfl, hl, r1⟩ := h
 have B := Below.nw w (.cells (cfV y p d) 45)
 have N := Bo.new w (cfV y p d) 45
 have l1 : ∀ g, (Value.slice p y.m d).ownBlock = some g → l ≤ g ∧ g < u ∧ g < w.heap.size := fun g hg => r1.lt hg
 have p1 := r1.below B
 clear r1
 have T0 : Btw l u w _ := Btw.ofBelow B
 go_enter Tryz.func20, Tryz.ntmps20
 go_upto_region 1 with fail
 generalize w.alloc (.cells (cfV y p d) 45) = v at *
 have hL : (loadCells ⟨w.heap.size, 8, none⟩ 3).run Tryz.prog v = .ok #[.int .i64 y.s, .int .i64 y.g, .slice p y.m d] v := N.loadAt (P := Tryz.prog) 8 3 (show 8 + 3 ≤ 11 by decide)
 go_wp2_with (rw [hL])
 refine (markPlan_q y.s y.g p y.m d l q _ v hl hq (by omega) p1.1).mono ?_
 rintro e v1 ⟨rfl, g1⟩
 clear hL p1
 replace T0 := T0.trans (Btw.ofGrown g1 fun g e => ⟨(l1 g e).1, (l1 g e).2.1⟩)
 clear g1 B N
 go_wp2_with fail
 go_ret
 exact ⟨rfl, hl, T0⟩
end Go.Proofs.YtddijpjgkifngaaGreat
namespace Go.Proofs.YtddijpjgkifngaaGreat
open Go.RowKit
set_option linter.unusedVariables false
set_option maxHeartbeats 2000000 in
theorem slotOk_any (o l : Int) (w : World) :
 Calls Tryz.prog 176 #[.agg #[.int .i64 o, .int .i64 l]] w fun e w' => e = .returned (.bool (slB o l)) ∧ Below w.heap.size w w' := by
 have B := Below.nw w (.cells #[.int .i64 o, .int .i64 l] 173)
 have C1 := fun w' => isNode_any o w'
 cases h1 : nodB o
 ·have e0 : slB o l = false := by unfold slB; rw [h1]; rfl
  rw [e0]
  go_enter Tryz.func176, Tryz.ntmps176
  go_wp2_with fail
  refine (C1 _).mono ?_
  rintro e w' ⟨rfl, rfl⟩
  rw [h1]
  go_wp2_with fail
  go_ret
  exact ⟨rfl, B⟩
 ·have e0 : slB o l = lnB l := by unfold slB; rw [h1]; rfl
  rw [e0]
  clear e0
  by_cases ha : 1 ≤ l
  ·by_cases hb : l ≤ 1000000
   ·have e0 : lnB l = true := decide_eq_true ⟨ha, hb⟩
    rw [e0]
    clear e0
    go_enter Tryz.func176, Tryz.ntmps176
    go_wp2_with fail
    refine (C1 _).mono ?_
    rintro e w' ⟨rfl, rfl⟩
    rw [h1]
    go_wp2_with fail
    go_ret
    exact ⟨rfl, B⟩
   ·have e0 : lnB l = false := decide_eq_false (by omega)
    rw [e0]
    clear e0
    go_enter Tryz.func176, Tryz.ntmps176
    go_wp2_with fail
    refine (C1 _).mono ?_
    rintro e w' ⟨rfl, rfl⟩
    rw [h1]
    go_wp2_with fail
    go_ret
    exact ⟨ret_bool (decide_eq_false (by omega)), B⟩
  ·have e0 : lnB l = false := decide_eq_false (by omega)
   rw [e0]
   clear e0
   go_enter Tryz.func176, Tryz.ntmps176
   go_wp2_with fail
   refine (C1 _).mono ?_
   rintro e w' ⟨rfl, rfl⟩
   rw [h1]
   go_wp2_with fail
   go_ret
   exact ⟨rfl, B⟩
set_option maxRecDepth 100000 in
set_option maxHeartbeats 8000000 in
theorem planOk_any (s g : Int) (a : Option Addr) (n c : Nat) (M : Nat → SlT) (w : World) (hm : n ≤ maxLen) (hs : SrcC w a (n * 2) (MFSlot M)) :
 Calls Tryz.prog 147 #[.agg #[.int .i64 s, .int .i64 g, .slice a n c]] w fun e w' => e = .returned (.bool (plB s g M n)) ∧ Below w.heap.size w w' := by
 unfold maxLen at hm
 have B := Below.nw w (.cells #[.int .i64 s, .int .i64 g, .slice a n c] 43)
 have N := Tx3.new w (.int .i64 s) (.int .i64 g) (.slice a n c) 43
 have C1 := fun w' => isTime_any s w'
 cases h1 : okT s
 ·have e0 : plB s g M n = false := by unfold plB; rw [h1]; rfl
  rw [e0]
  clear e0 hs
  go_enter Tryz.func147, Tryz.ntmps147; go_upto_region 1 with fail; generalize w.alloc (.cells #[.int .i64 s, .int .i64 g, .slice a n c] 43) = v at *; obtain ⟨n0, n1, n2, n3, n4, n5, n6⟩ := id N; go_wp2_with fail; refine (C1 _).mono ?_; rintro e w' ⟨rfl, rfl⟩; rw [h1]; go_wp2_with fail; go_ret; exact ⟨rfl, B⟩
 by_cases h2 : g < 0
 ·have e0 : plB s g M n = false := by unfold plB; rw [h1, show gpB g = false from decide_eq_false (by omega)]; rfl
  rw [e0]
  clear e0 hs
  go_enter Tryz.func147, Tryz.ntmps147; go_upto_region 1 with fail; generalize w.alloc (.cells #[.int .i64 s, .int .i64 g, .slice a n c] 43) = v at *; obtain ⟨n0, n1, n2, n3, n4, n5, n6⟩ := id N; go_wp2_with fail; refine (C1 _).mono ?_; rintro e w' ⟨rfl, rfl⟩; rw [h1]; go_wp2_with fail; go_ret; exact ⟨rfl, B⟩
 by_cases h3 : 100000 < g
 ·have e0 : plB s g M n = false := by unfold plB; rw [h1, show gpB g = false from decide_eq_false (by omega)]; rfl
  rw [e0]
  clear e0 hs
  go_enter Tryz.func147, Tryz.ntmps147; go_upto_region 1 with fail; generalize w.alloc (.cells #[.int .i64 s, .int .i64 g, .slice a n c] 43) = v at *; obtain ⟨n0, n1, n2, n3, n4, n5, n6⟩ := id N; go_wp2_with fail; refine (C1 _).mono ?_; rintro e w' ⟨rfl, rfl⟩; rw [h1]; go_wp2_with fail; go_ret; exact ⟨rfl, B⟩
 have e2 : gpB g = true := decide_eq_true (by omega)
 by_cases h4 : (n : Int) < 1
 ·have e0 : plB s g M n = false := by unfold plB; rw [h1, e2, show cnB n = false from decide_eq_false (by omega)]; rfl
  rw [e0]
  clear e0 hs e2
  go_enter Tryz.func147, Tryz.ntmps147; go_upto_region 1 with fail; generalize w.alloc (.cells #[.int .i64 s, .int .i64 g, .slice a n c] 43) = v at *; obtain ⟨n0, n1, n2, n3, n4, n5, n6⟩ := id N; go_wp2_with fail; refine (C1 _).mono ?_; rintro e w' ⟨rfl, rfl⟩; rw [h1]; go_wp2_with fail; go_ret; exact ⟨rfl, B⟩
 by_cases h5 : 12 < (n : Int)
 ·have e0 : plB s g M n = false := by unfold plB; rw [h1, e2, show cnB n = false from decide_eq_false (by omega)]; rfl
  rw [e0]
  clear e0 hs e2
  go_enter Tryz.func147, Tryz.ntmps147; go_upto_region 1 with fail; generalize w.alloc (.cells #[.int .i64 s, .int .i64 g, .slice a n c] 43) = v at *; obtain ⟨n0, n1, n2, n3, n4, n5, n6⟩ := id N; go_wp2_with fail; refine (C1 _).mono ?_; rintro e w' ⟨rfl, rfl⟩; rw [h1]; go_wp2_with fail; go_ret; exact ⟨rfl, B⟩
 have e0 : plB s g M n = slA M n := by unfold plB; rw [h1, e2, show cnB n = true from decide_eq_true (by omega)]; rfl
 rw [e0]
 clear e0 e2
 obtain ⟨b, off, rfl, hf⟩ : ∃ b off, a = some ⟨b, off, none⟩ ∧ Cs w b off (n * 2) (MFSlot M) := by
  rcases hs with q | q
  ·exact absurd q (by omega)
  ·exact q
 have HF : Hid (Cs w b off (n * 2) (MFSlot M)) := hf
 clear hf hs
 go_enter Tryz.func147, Tryz.ntmps147; go_upto_region 1 with fail; generalize w.alloc (.cells #[.int .i64 s, .int .i64 g, .slice (some ⟨b, off, none⟩) n c] 43) = v at *
 obtain ⟨n0, n1, n2, n3, n4, n5, n6⟩ := id N; go_wp2_with fail; refine (C1 _).mono ?_; rintro e w' ⟨rfl, rfl⟩; rw [h1]
 clear C1 h1
 go_wp2_with fail
 clear h2 h3 h4 h5 N
 clear n0 n1 n2 n3 n4 n5 n6
 go_loopw [34] (fun i wr => ∃ (k : Nat), k ≤ n ∧ i = .int .i64 k ∧ slA M k = true ∧ Below w.heap.size w wr) (fun i _ => n - (intOf i).toNat)
 case atStart => exact ⟨0, Nat.zero_le _, rfl, rfl, B⟩
 case round =>
  clear B
  obtain ⟨k, hk, rfl, hA, B⟩ := hrel
  by_cases hlt : k < n
  ·obtain ⟨o, l, hM⟩ := tupSlot M k
   obtain ⟨c1, c2⟩ := (HF.out.below B HF.out.1).elSlot hlt hM
   have HA : Hid (slA M (k + 1) = slB o l) := by rw [Hid, slA, hA, hM]; rfl
   have HLT : Hid (k < n) := hlt
   have hli : (k : Int) < (n : Int) := by omega
   have C1 := fun w' => slotOk_any o l w'
   have A1 := Below.nw wr (.cells #[.int .i64 o, .int .i64 l] 173)
   replace B := B.trans (A1.mono B.size)
   clear hM hA HF A1
   go_wp2_with fail
   refine (C1 _).mono ?_
   rintro e v1 ⟨rfl, hb⟩
   replace B := B.trans (hb.mono B.size)
   clear hb
   cases h1 : slB o l
   ·have HN : Hid (slA M (k + 1) = false) := by rw [Hid, HA.out, h1]
    clear HA
    go_wp2_with fail
    go_ret
    exact ⟨ret_bool (slA_no HN.out HLT.out).symm, B⟩
   ·have HT : Hid (slA M (k + 1) = true) := by rw [Hid, HA.out, h1]
    clear HA
    go_wp2_with fail
    go_roundw
    case rel => exact ⟨k + 1, HLT.out, by go_num, HT.out, B⟩
    case measure => have hlt' := HLT.out; simp [intOf]; omega
  ·have hkn : k = n := by omega
   subst hkn
   have hli : ¬ (k : Int) < (k : Int) := by omega
   go_wp2_with fail
   go_ret
   exact ⟨by first | rfl | exact ret_bool hA.symm, B⟩

end Go.Proofs.YtddijpjgkifngaaGreat
namespace Go.Proofs.YtddijpjgkifngaaGreat
open Go.RowKit
set_option linter.unusedVariables false
attribute [-go_sem] loadCells storeCells in
set_option maxRecDepth 100000 in
set_option maxHeartbeats 8000000 in
theorem cfgok_any (AC : Array Value) (y : CfX) (w : World) (HC : CfW w AC y) :
 Calls Tryz.prog 98 #[.agg AC] w fun e w' => e = .returned (.bool (cokX y)) ∧ Below w.heap.size w w' := by
 have CD := fun v => okd_any y.dn y.dd v
 have C4 := fun v => isTime_any y.pt v
 have C5 := fun v => isTime_any y.ag v
 have C6 := fun v => isTime_any y.ke v
 obtain ⟨p, d, rfl, hpm, hr⟩ := HC
 have CP := fun (v : World) (h : Below w.heap.size w v) => planOk_any y.s y.g p y.m d y.PM v hpm (hr.below h)
 clear hr
 have HK : Hid (cokX y = (okD y.dn y.dd && (plB y.s y.g y.PM y.m && ((inI y.li 0 8 && inI y.le 1 8) && ((okT y.pt && (okT y.ag && okT y.ke)) && inI y.lg 1 1000000))))) := by (rw [Hid]; unfold cokX cfB; simp only [Bool.and_assoc])
 generalize cokX y = R at *
 have A0 := Below.nw w (.cells (cfV y p d) 45)
 have C := Bo.new w (cfV y p d) 45
 have B := A0
 clear A0
 go_enter Tryz.func98, Tryz.ntmps98
 go_upto_region 1 with fail
 generalize w.alloc (.cells (cfV y p d) 45) = v0 at *
 have c2 : v0.cell? ⟨w.heap.size, 2, none⟩ = some (.int .i64 y.li) := C.cell rfl
 have c3 : v0.cell? ⟨w.heap.size, 3, none⟩ = some (.int .i64 y.le) := C.cell rfl
 go_upto_region 1 with fail
 go_cut [3] (fun s3 wx => s3 = .bool (inI y.li 0 8 && inI y.le 1 8) ∧ v0 = wx)
 case first =>
  go_wp2
  all_goals go_meet
  all_goals exact ⟨congrArg Value.bool (by rw [Bool.eq_iff_iff]; simp [inI]; try omega), rfl⟩
 case rest =>
 obtain ⟨rfl, rfl⟩ := hcut
 clear c2 c3
 obtain ⟨b1, hb1⟩ : ∃ b, (inI y.li 0 8 && inI y.le 1 8) = b := ⟨_, rfl⟩
 rw [hb1]
 have c4 : v0.cell? ⟨w.heap.size, 4, none⟩ = some (.int .i64 y.pt) := C.cell rfl
 have c5 : v0.cell? ⟨w.heap.size, 5, none⟩ = some (.int .i64 y.ag) := C.cell rfl
 have c6 : v0.cell? ⟨w.heap.size, 6, none⟩ = some (.int .i64 y.ke) := C.cell rfl
 go_upto_region 2 with fail
 go_cut [4] (fun s4 wx => s4 = .bool (okT y.pt && (okT y.ag && okT y.ke)) ∧ v0 = wx)
 case first =>
  cases h4 : okT y.pt
  ·go_wp2_with fail
   refine (C4 _).mono ?_
   rintro e w' ⟨rfl, rfl⟩
   rw [h4]
   go_wp2_with fail
   go_meet
   exact ⟨congrArg Value.bool (by rw [h4]; rfl), rfl⟩
  cases h5 : okT y.ag
  ·go_wp2_with fail
   refine (C4 _).mono ?_
   rintro e w' ⟨rfl, rfl⟩
   rw [h4]
   go_wp2_with fail
   refine (C5 _).mono ?_
   rintro e w' ⟨rfl, rfl⟩
   rw [h5]
   go_wp2_with fail
   go_meet
   exact ⟨congrArg Value.bool (by rw [h4, h5]; rfl), rfl⟩
  go_wp2_with fail
  refine (C4 _).mono ?_
  rintro e w' ⟨rfl, rfl⟩
  rw [h4]
  go_wp2_with fail
  refine (C5 _).mono ?_
  rintro e w' ⟨rfl, rfl⟩
  rw [h5]
  go_wp2_with fail
  refine (C6 _).mono ?_
  rintro e w' ⟨rfl, rfl⟩
  go_wp2_with fail
  go_meet
  exact ⟨congrArg Value.bool (by rw [h4, h5]; rfl), rfl⟩
 case rest =>
 obtain ⟨rfl, rfl⟩ := hcut
 clear c4 c5 c6 C4 C5 C6
 obtain ⟨b2, hb2⟩ : ∃ b, (okT y.pt && (okT y.ag && okT y.ke)) = b := ⟨_, rfl⟩
 rw [hb2]
 replace HK : Hid (R = (okD y.dn y.dd && (plB y.s y.g y.PM y.m && (b1 && (b2 && inI y.lg 1 1000000))))) := by (rw [Hid, HK.out, hb1, hb2])
 clear hb1 hb2
 have hL0 : (loadCells ⟨w.heap.size, 0, none⟩ 2).run Tryz.prog v0 = .ok #[.int .i64 y.dn, .int .i64 y.dd] v0 := C.loadAt (P := Tryz.prog) 0 2 (show 0 + 2 ≤ 11 by decide)
 go_wp2_with (rw [hL0])
 refine (CD _).mono ?_
 rintro e v1 ⟨rfl, hb⟩
 clear hL0
 replace B := B.trans (hb.mono B.size)
 replace C := C.below hb
 clear hb CD
 cases h6 : okD y.dn y.dd
 ·replace HK : Hid (R = false) := by (rw [Hid, HK.out, h6]; rfl)
  go_wp2_with fail
  go_ret
  exact ⟨ret_bool HK.out.symm, B⟩
 have hL0 : (loadCells ⟨w.heap.size, 8, none⟩ 3).run Tryz.prog v1 = .ok #[.int .i64 y.s, .int .i64 y.g, .slice p y.m d] v1 := C.loadAt (P := Tryz.prog) 8 3 (show 8 + 3 ≤ 11 by decide)
 go_wp2_with (rw [hL0])
 refine (CP _ B).mono ?_
 rintro e v2 ⟨rfl, hb⟩
 clear hL0
 replace B := B.trans (hb.mono B.size)
 replace C := C.below hb
 clear hb CP
 cases h7 : plB y.s y.g y.PM y.m
 ·replace HK : Hid (R = false) := by (rw [Hid, HK.out, h6, h7]; rfl)
  go_wp2_with fail
  go_ret
  exact ⟨ret_bool HK.out.symm, B⟩
 cases b1
 ·replace HK : Hid (R = false) := by (rw [Hid, HK.out, h6, h7]; rfl)
  go_wp2_with fail
  go_ret
  exact ⟨ret_bool HK.out.symm, B⟩
 cases b2
 ·replace HK : Hid (R = false) := by (rw [Hid, HK.out, h6, h7]; rfl)
  go_wp2_with fail
  go_ret
  exact ⟨ret_bool HK.out.symm, B⟩
 replace HK : Hid (R = inI y.lg 1 1000000) := by (rw [Hid, HK.out, h6, h7]; rfl)
 have c7 : v2.cell? ⟨w.heap.size, 7, none⟩ = some (.int .i64 y.lg) := C.cell rfl
 go_wp2
 all_goals go_ret
 all_goals exact ⟨ret_bool (by rw [HK.out, Bool.eq_iff_iff]; simp [inI]; try omega), B⟩
end Go.Proofs.YtddijpjgkifngaaGreat
