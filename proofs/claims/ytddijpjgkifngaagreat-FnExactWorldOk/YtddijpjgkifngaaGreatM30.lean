/- The contracts of a node, told of arrays of cells. What the laws are handed: arrays that read as a node. A configuration as data; its contracts, told of arrays of cells. What the laws are handed: arrays that read as a configuration. NewNode, NodeBoot, NodeCrash in the specification, told of arrays of cells. -/
import Derived.Test.YtddijpjgkifngaaGreatM25
import Derived.Test.YtddijpjgkifngaaGreatM27
import Derived.Test.YtddijpjgkifngaaGreatM29
namespace Go.Proofs.YtddijpjgkifngaaGreat
open Go.RowKit
set_option linter.unusedVariables false
theorem RowF.rwo {w : World} {b n sz base : Nat} {T : TypeId} {F : Nat → Value} (h : RowF w b T (n * sz) (n * sz) F) (hn : n ≤ 1048576) (hb : base ≤ b) : Rwo w base w.heap.size T sz (some ⟨b, 0, none⟩) n n F := by
 obtain ⟨g, ⟨c, hc, hs, hv⟩, hg⟩ := h
 have hlt : b < w.heap.size := (Array.getElem?_eq_some_iff.1 hc).1
 refine ⟨⟨by simp, .inr ⟨b, n, c, rfl, hb, hc, Nat.le_refl _, by unfold maxLen; omega, hs, ?_⟩⟩, fun g' e => by cases e; exact hlt⟩
 apply List.ext_getElem?
 intro j
 by_cases hj : j < n * sz
 ·rw [List.getElem?_take, if_pos hj]
  have h1 := hv j hj
  have e : c.toList[j]? = c[j]? := by simp
  rw [e, h1, hg j hj]
  simp [hj]
 ·rw [List.getElem?_eq_none (by simp; omega), List.getElem?_eq_none (by simp; omega)]
def okX (x : NdX) : Bool := ndB x.ni x.mo x.ep x.si x.kn x.lo x.hi x.la x.te x.us x.AM x.na x.QM x.np x.hs x.ls x.HM x.nh x.se
def cmX (x : NdX) (ct : Int) : Bool := cmB x.si x.la x.se x.AM x.na x.QM x.np x.HM x.nh ct
end Go.Proofs.YtddijpjgkifngaaGreat
namespace Go.Proofs.YtddijpjgkifngaaGreat
open Go.RowKit
set_option linter.unusedVariables false
def wfX (x : NdX) : Prop := ∀ i, i < x.na → (Lit.int .i64 (x.AM i).1).wf = true
def NdW (w : World) (A : Array Value) (x : NdX) : Prop := ∃ aa ac pa pc ha hc, A = ndV x aa ac pa pc ha hc ∧ (x.na ≤ maxLen ∧ x.np ≤ maxLen ∧ x.nh ≤ maxLen) ∧ SrcC w aa (x.na * 4) (MFAsk x.AM) ∧ SrcC w pa (x.np * 5) (MFPeer x.QM) ∧ SrcC w ha (x.nh * 2) (MFIval x.HM)
theorem NdS.weak {w : World} {A : Array Value} {x : NdX} (h : NdS w A x) : NdW w A x := by
 obtain ⟨aa, ac, pa, pc, ha, hc, e, hl, h1, h2, h3⟩ := h
 exact ⟨aa, ac, pa, pc, ha, hc, e, hl, h1.src, h2.src, h3.src⟩
theorem NdW.below {w w' : World} {A : Array Value} {x : NdX} (h : NdW w A x) (hb : Below w.heap.size w w') : NdW w' A x := by
 obtain ⟨aa, ac, pa, pc, ha, hc, e, hl, h1, h2, h3⟩ := h
 exact ⟨aa, ac, pa, pc, ha, hc, e, hl, h1.below hb, h2.below hb, h3.below hb⟩
theorem NdW.size {w : World} {A : Array Value} {x : NdX} (h : NdW w A x) : A.size = 16 := by
 obtain ⟨aa, ac, pa, pc, ha, hc, e, _⟩ := h
 rw [e]; rfl
theorem toNodeW (A : Array Value) (x : NdX) (w : World) (h : NdW w A x) (hb : x.na ≤ 1048576 ∧ x.np ≤ 1048576 ∧ x.nh ≤ 1048576) :
 Calls Tryz.prog 95 #[.agg A] w fun e w' => ∃ R, e = .returned (.agg R) ∧ NdO w' w.heap.size w'.heap.size R x ∧ Below w.heap.size w w' := by
 obtain ⟨aa, ac, pa, pc, ha, hc, rfl, hl, h1, h2, h3⟩ := h
 refine (toNode_any x.ni x.mo x.ep x.si x.kn x.lo x.hi x.la x.te x.us aa x.na ac x.AM pa x.np pc x.QM x.hs x.ls ha x.nh hc x.HM x.se w hb.1 h1 hb.2.1 h2 hb.2.2 h3).mono ?_
 rintro e w' ⟨jA, jP, jH, rfl, q1, q2, q3, r1, r2, r3, hB⟩
 exact ⟨_, rfl, ⟨some ⟨jA, 0, none⟩, x.na, some ⟨jP, 0, none⟩, x.np, some ⟨jH, 0, none⟩, x.nh, rfl, hb, r1.rwo hb.1 q1, r2.rwo hb.2.1 (by omega), r3.rwo hb.2.2 (by omega)⟩, hB⟩
theorem szNodeW (A : Array Value) (x : NdX) (Z : Int) (w : World) (h : NdW w A x) (h0 : 0 ≤ Z) (h1 : Z ≤ 1048576) :
 Calls Tryz.prog 79 #[.agg A, .int .i64 Z] w fun e w' => ∃ L : Int, e = .returned (.int .i64 L) ∧ (0 ≤ L → (x.na ≤ 1048576 ∧ x.np ≤ 1048576 ∧ x.nh ≤ 1048576) ∧ L ≤ 1048576) ∧ Below w.heap.size w w' := by
 obtain ⟨aa, ac, pa, pc, ha, hc, rfl, hl, r1, r2, r3⟩ := h
 refine (szNode_at x.ni x.mo x.ep x.si x.kn x.lo x.hi x.la x.te x.us aa x.na ac x.AM pa x.np pc x.QM x.hs x.ls ha x.nh hc x.HM x.se Z w hl.1 hl.2.1 hl.2.2 h0 h1).mono ?_
 rintro e w' ⟨L, rfl, hL, hB⟩
 exact ⟨L, rfl, fun h => ⟨⟨(hL h).1, (hL h).2.1, (hL h).2.2.1⟩, (hL h).2.2.2⟩, hB⟩
end Go.Proofs.YtddijpjgkifngaaGreat
namespace Go.Proofs.YtddijpjgkifngaaGreat
open Go.RowKit
set_option linter.unusedVariables false
structure CfX where
 dn : Int
 dd : Int
 li : Int
 le : Int
 pt : Int
 ag : Int
 ke : Int
 lg : Int
 s : Int
 g : Int
 PM : Nat → SlT
 m : Nat
def cfV (y : CfX) (p : Option Addr) (d : Nat) : Array Value :=
 #[.int .i64 y.dn, .int .i64 y.dd, .int .i64 y.li, .int .i64 y.le, .int .i64 y.pt, .int .i64 y.ag, .int .i64 y.ke, .int .i64 y.lg, .int .i64 y.s, .int .i64 y.g, .slice p y.m d]
def CfS (w : World) (A : Array Value) (y : CfX) : Prop := ∃ p d, A = cfV y p d ∧ y.m ≤ maxLen ∧ RwO w p y.m d 2 (MFSlot y.PM)
theorem CfS.below {w w' : World} {A : Array Value} {y : CfX} (h : CfS w A y) (hb : Below w.heap.size w w') : CfS w' A y := by
 obtain ⟨p, d, e, hl, h1⟩ := h
 exact ⟨p, d, e, hl, h1.below hb⟩
theorem CfS.size {w : World} {A : Array Value} {y : CfX} (h : CfS w A y) : A.size = 11 := by
 obtain ⟨p, d, e, _⟩ := h
 rw [e]; rfl
theorem CfS.one {w : World} {A : Array Value} {y : CfX} (h : CfS w A y) : ∀ u ∈ A.toList, u.oneCell' = true := by
 obtain ⟨p, d, e, _⟩ := h
 rw [e]
 intro u hu
 simp only [cfV, List.mem_cons, List.not_mem_nil, or_false] at hu
 rcases hu with h | h | h | h | h | h | h | h | h | h | h <;> (subst h; rfl)
def CfO (w : World) (l u : Nat) (A : Array Value) (y : CfX) : Prop := ∃ p d, A = cfV y p d ∧ y.m ≤ 1048576 ∧ Rwo w l u 173 2 p y.m d (MFSlot y.PM)
theorem CfO.below {w w' : World} {l u : Nat} {A : Array Value} {y : CfX} (h : CfO w l u A y) (hb : Below w.heap.size w w') : CfO w' l u A y := by
 obtain ⟨p, d, e, hl, h1⟩ := h
 exact ⟨p, d, e, hl, h1.below hb⟩
theorem CfO.btw {w w' : World} {l u l' u' : Nat} {A : Array Value} {y : CfX} (h : CfO w l u A y) (hb : Btw l' u' w w') (ho : u ≤ l' ∨ u' ≤ l) : CfO w' l u A y := by
 obtain ⟨p, d, e, hl, h1⟩ := h
 exact ⟨p, d, e, hl, h1.btw hb ho⟩
theorem CfO.src {w : World} {l u : Nat} {A : Array Value} {y : CfX} (h : CfO w l u A y) : CfS w A y := by
 obtain ⟨p, d, e, hl, h1⟩ := h
 exact ⟨p, d, e, by unfold maxLen; omega, h1.rw⟩
theorem CfO.size {w : World} {l u : Nat} {A : Array Value} {y : CfX} (h : CfO w l u A y) : A.size = 11 := h.src.size
theorem CfO.one {w : World} {l u : Nat} {A : Array Value} {y : CfX} (h : CfO w l u A y) : ∀ v ∈ A.toList, v.oneCell' = true := h.src.one
def cokX (y : CfX) : Bool := cfB y.dn y.dd y.li y.le y.pt y.ag y.ke y.lg y.s y.g y.PM y.m
end Go.Proofs.YtddijpjgkifngaaGreat
namespace Go.Proofs.YtddijpjgkifngaaGreat
open Go.RowKit
set_option linter.unusedVariables false
def CfW (w : World) (A : Array Value) (y : CfX) : Prop := ∃ p d, A = cfV y p d ∧ y.m ≤ maxLen ∧ SrcC w p (y.m * 2) (MFSlot y.PM)
theorem CfS.weak {w : World} {A : Array Value} {y : CfX} (h : CfS w A y) : CfW w A y := by
 obtain ⟨p, d, e, hl, h1⟩ := h
 exact ⟨p, d, e, hl, h1.src⟩
theorem CfW.below {w w' : World} {A : Array Value} {y : CfX} (h : CfW w A y) (hb : Below w.heap.size w w') : CfW w' A y := by
 obtain ⟨p, d, e, hl, h1⟩ := h
 exact ⟨p, d, e, hl, h1.below hb⟩
theorem CfW.size {w : World} {A : Array Value} {y : CfX} (h : CfW w A y) : A.size = 11 := by
 obtain ⟨p, d, e, _⟩ := h
 rw [e]; rfl
theorem toCfgW (A : Array Value) (y : CfX) (w : World) (h : CfW w A y) (hb : y.m ≤ 1048576) :
 Calls Tryz.prog 15 #[.agg A] w fun e w' => ∃ R, e = .returned (.agg R) ∧ CfO w' w.heap.size w'.heap.size R y ∧ Below w.heap.size w w' := by
 obtain ⟨p, d, rfl, hl, h1⟩ := h
 refine (toCfg_any y.dn y.dd y.li y.le y.pt y.ag y.ke y.lg y.s y.g p y.m d y.PM w hb h1).mono ?_
 rintro e w' ⟨jx, rfl, q1, r1, hB⟩
 exact ⟨_, rfl, ⟨some ⟨jx, 0, none⟩, y.m, rfl, hb, r1.rwo hb q1⟩, hB⟩
theorem szCfgW (A : Array Value) (y : CfX) (Z : Int) (w : World) (h : CfW w A y) (h0 : 0 ≤ Z) (h1 : Z ≤ 1048576) :
 Calls Tryz.prog 13 #[.agg A, .int .i64 Z] w fun e w' => ∃ L : Int, e = .returned (.int .i64 L) ∧ (0 ≤ L → y.m ≤ 1048576 ∧ L ≤ 1048576) ∧ Below w.heap.size w w' := by
 obtain ⟨p, d, rfl, hl, r1⟩ := h
 exact szCfg_at y.dn y.dd y.li y.le y.pt y.ag y.ke y.lg y.s y.g p y.m d y.PM Z w hl h0 h1
end Go.Proofs.YtddijpjgkifngaaGreat
namespace Go.Proofs.YtddijpjgkifngaaGreat
open Go.RowKit
set_option linter.unusedVariables false
theorem okX_short {x : NdX} (h : okX x = true) : x.na ≤ 16 ∧ x.np ≤ 8 ∧ x.nh ≤ 16 := by
 unfold okX ndB ndA at h
 simp only [Bool.and_eq_true] at h
 obtain ⟨⟨_, _, _, h1, h2, _, h3, _⟩, _⟩ := h
 refine ⟨?_, ?_, ?_⟩
 ·unfold tabB at h1
  simp only [Bool.and_eq_true, decide_eq_true_eq] at h1
  omega
 ·exact oks_le h2
 ·unfold hrB at h3
  simp only [Bool.and_eq_true, decide_eq_true_eq] at h3
  omega
end Go.Proofs.YtddijpjgkifngaaGreat
