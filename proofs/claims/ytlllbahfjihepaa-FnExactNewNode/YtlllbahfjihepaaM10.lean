/- The code that is looked at first; a new node (the specification). A node as data, and arrays of cells that read as it. A copy of a table (the specification). The cells of a box of a node, written at once. A clock that is read: what the laws make of it. What the laws make of a life and of an event. What the laws make of a node. Whether two nodes are the same (the laws). How great a node is (the laws). The contracts of a node, told of arrays of cells. A configuration as data; its contracts, told of arrays of cells. What the laws are handed: arrays that read as a node, a configuration. Plans in the program: which are right, how long a round is, which round a time lies in. CfgOk in the program, over arrays of cells. The exact law of CfgOk, of what the law is handed. -/
import Derived.Deep.RegionHeld3
import Derived.WalkKit
import Derived.WalkSpells
import Derived.WalkLawsBesides
import Derived.Deep.RegionHeld
import Derived.Deep.DeepAppendRoom
import Derived.Laws.OwnMore
import Derived.Deep.DeepCutAuto
import Derived.Deep.QuietTactic
import Derived.BigQuiet
import Derived.Deep.OwnRows
import Derived.Test.YtlllbahfjihepaaM9
import Derived.Test.YtlllbahfjihepaaM7
import Derived.Test.YtlllbahfjihepaaM1
import Derived.Test.YtlllbahfjihepaaM8
import Derived.Test.YtlllbahfjihepaaM2
import Derived.Test.YtlllbahfjihepaaM6
import Derived.Test.YtlllbahfjihepaaM4
import Derived.Test.YtlllbahfjihepaaM5
namespace Go.Proofs.Ytlllbahfjihepaa
open Go.RowKit
set_option linter.unusedVariables false
def RwO (w : World) (a : Option Addr) (n c sz : Nat) (F : Nat → Value) : Prop := (a = none ∧ n = 0 ∧ c = 0) ∨ ∃ b off, a = some ⟨b, off, none⟩ ∧ (n = 0 ∨ Cs w b off (n * sz) F)
theorem RwO.below {w w' : World} {a : Option Addr} {n c sz : Nat} {F : Nat → Value} (h : RwO w a n c sz F) (hb : Below w.heap.size w w') : RwO w' a n c sz F := by
  rcases h with h | ⟨b, off, e, h⟩
  · exact .inl h
  · exact .inr ⟨b, off, e, h.imp id fun h => h.below hb h.1⟩
theorem RwO.src {w : World} {a : Option Addr} {n c sz : Nat} {F : Nat → Value} (h : RwO w a n c sz F) : SrcC w a (n * sz) F := by
  rcases h with ⟨_, h, _⟩ | ⟨b, off, e, h | h⟩
  · exact .inl (by rw [h, Nat.zero_mul])
  · exact .inl (by rw [h, Nat.zero_mul])
  · exact .inr ⟨b, off, e, h⟩
end Go.Proofs.Ytlllbahfjihepaa
namespace Go.Proofs.Ytlllbahfjihepaa
open Go.RowKit
set_option linter.unusedVariables false
def Btw (lo hi : Nat) (w w' : World) : Prop := w'.os = w.os ∧ w'.tape = w.tape ∧ w'.output = w.output ∧ w.heap.size ≤ w'.heap.size ∧ ∀ k, k < w.heap.size → (k < lo ∨ hi ≤ k) → w'.heap[k]? = w.heap[k]?
theorem Btw.trans {lo hi : Nat} {u v w : World} (h : Btw lo hi u v) (k : Btw lo hi v w) : Btw lo hi u w :=
  ⟨k.1.trans h.1, k.2.1.trans h.2.1, k.2.2.1.trans h.2.2.1, Nat.le_trans h.2.2.2.1 k.2.2.2.1, fun i hi' ho => (k.2.2.2.2 i (Nat.lt_of_lt_of_le hi' h.2.2.2.1) ho).trans (h.2.2.2.2 i hi' ho)⟩
theorem Btw.ofBelow {lo hi : Nat} {w w' : World} (h : Below w.heap.size w w') : Btw lo hi w w' := ⟨h.os, h.tape, h.output, h.size, fun k hk _ => h.block k hk⟩
theorem Btw.ofGrown {lo hi : Nat} {w w' : World} {o : Option Nat} (h : w.grownBy w' o) (ho : ∀ g, o = some g → lo ≤ g ∧ g < hi) : Btw lo hi w w' :=
  ⟨h.os, h.tape, h.output, h.size, fun k hk hx => h.block k hk (fun e => by have := ho k e.symm; omega)⟩
theorem Btw.belowL {lo hi : Nat} {w w' : World} (h : Btw lo hi w w') (hl : lo ≤ w.heap.size) : Below lo w w' := ⟨h.1, h.2.1, h.2.2.1, h.2.2.2.1, fun k hk => h.2.2.2.2 k (by omega) (.inl hk)⟩
theorem Btw.cell {lo hi : Nat} {w w' : World} (h : Btw lo hi w w') {k i : Nat} (hk : k < w.heap.size) (ho : k < lo ∨ hi ≤ k) : w'.cell? ⟨k, i, none⟩ = w.cell? ⟨k, i, none⟩ := by
  simp only [World.cell?]; rw [h.2.2.2.2 k hk ho]
theorem Btw.frozen {lo hi : Nat} {w w' : World} (h : Btw lo hi w w') {k i : Nat} (hk : k < w.heap.size) (ho : k < lo ∨ hi ≤ k) : w'.frozen? ⟨k, i, none⟩ = w.frozen? ⟨k, i, none⟩ := by
  simp only [World.frozen?]; rw [h.2.2.2.2 k hk ho]
theorem Bo.btw {lo hi : Nat} {w w' : World} {k : Nat} {A : Array Value} (h : Bo w k A) (hb : Btw lo hi w w') (ho : k < lo ∨ hi ≤ k) : Bo w' k A :=
  ⟨Nat.lt_of_lt_of_le h.1 hb.2.2.2.1, fun i u hi => by rw [hb.cell h.1 ho]; exact h.2.1 i u hi, fun i hi => by rw [hb.frozen h.1 ho]; exact h.2.2 i hi⟩
def Rwo (w : World) (lo hi : Nat) (T : TypeId) (sz : Nat) (a : Option Addr) (n c : Nat) (F : Nat → Value) : Prop :=
  w.ownsRow lo T sz (.slice a n c) n ((List.range (n * sz)).map F) ∧ ∀ g, (Value.slice a n c).ownBlock = some g → g < hi
theorem Rwo.lt {w : World} {lo hi : Nat} {T : TypeId} {sz : Nat} {a : Option Addr} {n c : Nat} {F : Nat → Value} (h : Rwo w lo hi T sz a n c F) {g : Nat} (hg : (Value.slice a n c).ownBlock = some g) : lo ≤ g ∧ g < hi ∧ g < w.heap.size :=
  ⟨(World.ownsRow.lt h.1 g hg).1, h.2 g hg, (World.ownsRow.lt h.1 g hg).2⟩
theorem Rwo.same {w w' : World} {lo hi : Nat} {T : TypeId} {sz : Nat} {a : Option Addr} {n c : Nat} {F : Nat → Value} (h : Rwo w lo hi T sz a n c F) (hs : ∀ g, (Value.slice a n c).ownBlock = some g → w'.heap[g]? = w.heap[g]?) : Rwo w' lo hi T sz a n c F := by
  refine ⟨⟨h.1.1, ?_⟩, h.2⟩
  rcases h.1.2 with q | ⟨g, cap, cur, e, h1, h2, h3⟩
  · exact .inl q
  · exact .inr ⟨g, cap, cur, e, h1, by rw [hs g (by rw [e]; rfl)]; exact h2, h3⟩
theorem Rwo.below {w w' : World} {lo hi : Nat} {T : TypeId} {sz : Nat} {a : Option Addr} {n c : Nat} {F : Nat → Value} (h : Rwo w lo hi T sz a n c F) (hb : Below w.heap.size w w') : Rwo w' lo hi T sz a n c F :=
  h.same fun g hg => hb.block g (h.lt hg).2.2
theorem Rwo.btw {w w' : World} {lo hi l u : Nat} {T : TypeId} {sz : Nat} {a : Option Addr} {n c : Nat} {F : Nat → Value} (h : Rwo w lo hi T sz a n c F) (hb : Btw l u w w') (ho : hi ≤ l ∨ u ≤ lo) : Rwo w' lo hi T sz a n c F :=
  h.same fun g hg => hb.2.2.2.2 g (h.lt hg).2.2 (by have := h.lt hg; omega)
theorem Rwo.kept {w w' : World} {lo hi : Nat} {o : Option Nat} {T : TypeId} {sz : Nat} {a : Option Addr} {n c : Nat} {F : Nat → Value} (h : Rwo w lo hi T sz a n c F) (hb : w.grownBy w' o) (ho : ∀ g, (Value.slice a n c).ownBlock = some g → some g ≠ o) : Rwo w' lo hi T sz a n c F :=
  h.same fun g hg => hb.block g (h.lt hg).2.2 (ho g hg)
theorem Rwo.ne {w : World} {lo hi lo' hi' : Nat} {T T' : TypeId} {sz sz' : Nat} {a a' : Option Addr} {n c n' c' : Nat} {F F' : Nat → Value} (h : Rwo w lo hi T sz a n c F) (h' : Rwo w lo' hi' T' sz' a' n' c' F') (hT : T ≠ T') : ∀ g, (Value.slice a n c).ownBlock = some g → some g ≠ (Value.slice a' n' c').ownBlock := by
  intro g hg e
  rcases h.1.2 with ⟨q, _⟩ | ⟨g1, cap, cur, e1, _, h2, _⟩
  · rw [q] at hg; cases hg
  · rcases h'.1.2 with ⟨q, _⟩ | ⟨g2, cap', cur', e2, _, k2, _⟩
    · rw [q] at e; cases e
    · rw [e1] at hg
      rw [e2] at e
      cases hg
      cases e
      rw [h2] at k2
      injection k2 with k2
      injection k2 with _ k2
      exact hT k2
theorem Rwo.rw {w : World} {lo hi : Nat} {T : TypeId} {sz : Nat} {a : Option Addr} {n c : Nat} {F : Nat → Value} (h : Rwo w lo hi T sz a n c F) : RwO w a n c sz F := by
  obtain ⟨a', c', e, _, _, hs⟩ := ownF_src h.1
  injection e with e1 _ e3
  subst e1
  subst e3
  rcases h.1.2 with ⟨q, q0⟩ | ⟨g, cap, cur, q, _⟩
  · injection q with q1 q2 q3
    exact .inl ⟨q1, q2, q3⟩
  · injection q with q1 q2 q3
    rcases hs with hs | ⟨b, off, r1, r2⟩
    · refine .inr ⟨g, 0, q1, ?_⟩
      by_cases hn : n = 0
      · exact .inl hn
      · refine .inr ⟨?_, fun j hj => by omega⟩
        have := (h.lt (g := g) (by rw [q1]; rfl)).2.2
        exact this
    · exact .inr ⟨b, off, r1, .inr r2⟩
structure NdX where
  ni : Int
  mo : Int
  ep : Int
  si : Int
  kn : Bool
  lo : Int
  hi : Int
  la : Int
  te : Int
  us : Int
  AM : Nat → KT
  na : Nat
  QM : Nat → PT
  np : Nat
  hs : Bool
  ls : Int
  HM : Nat → VT
  nh : Nat
  se : Int
def ndV (x : NdX) (aa : Option Addr) (ac : Nat) (pa : Option Addr) (pc : Nat) (ha : Option Addr) (hc : Nat) : Array Value :=
  #[.int .i64 x.ni, .int .i64 x.mo, .int .i64 x.ep, .int .i64 x.si, .bool x.kn, .int .i64 x.lo, .int .i64 x.hi, .int .i64 x.la, .int .i64 x.te, .int .i64 x.us, .slice aa x.na ac, .slice pa x.np pc, .bool x.hs, .int .i64 x.ls, .slice ha x.nh hc, .int .i64 x.se]
def NdS (w : World) (A : Array Value) (x : NdX) : Prop := ∃ aa ac pa pc ha hc, A = ndV x aa ac pa pc ha hc ∧ (x.na ≤ maxLen ∧ x.np ≤ maxLen ∧ x.nh ≤ maxLen) ∧ RwO w aa x.na ac 4 (MFAsk x.AM) ∧ RwO w pa x.np pc 5 (MFPeer x.QM) ∧ RwO w ha x.nh hc 2 (MFIval x.HM)
theorem NdS.below {w w' : World} {A : Array Value} {x : NdX} (h : NdS w A x) (hb : Below w.heap.size w w') : NdS w' A x := by
  obtain ⟨aa, ac, pa, pc, ha, hc, e, hl, h1, h2, h3⟩ := h
  exact ⟨aa, ac, pa, pc, ha, hc, e, hl, h1.below hb, h2.below hb, h3.below hb⟩
theorem NdS.size {w : World} {A : Array Value} {x : NdX} (h : NdS w A x) : A.size = 16 := by
  obtain ⟨aa, ac, pa, pc, ha, hc, e, _⟩ := h
  rw [e]; rfl
theorem ndV_one (x : NdX) (aa : Option Addr) (ac : Nat) (pa : Option Addr) (pc : Nat) (ha : Option Addr) (hc : Nat) : ∀ u ∈ (ndV x aa ac pa pc ha hc).toList, u.oneCell' = true := by
  intro u hu
  simp only [ndV, List.mem_cons, List.not_mem_nil, or_false] at hu
  rcases hu with h | h | h | h | h | h | h | h | h | h | h | h | h | h | h | h <;> (subst h; rfl)
theorem NdS.one {w : World} {A : Array Value} {x : NdX} (h : NdS w A x) : ∀ u ∈ A.toList, u.oneCell' = true := by
  obtain ⟨aa, ac, pa, pc, ha, hc, e, _⟩ := h
  rw [e]; exact ndV_one x aa ac pa pc ha hc
def NdO (w : World) (l u : Nat) (A : Array Value) (x : NdX) : Prop := ∃ aa ac pa pc ha hc, A = ndV x aa ac pa pc ha hc ∧ (x.na ≤ 1048576 ∧ x.np ≤ 1048576 ∧ x.nh ≤ 1048576) ∧ Rwo w l u 118 4 aa x.na ac (MFAsk x.AM) ∧ Rwo w l u 94 5 pa x.np pc (MFPeer x.QM) ∧ Rwo w l u 122 2 ha x.nh hc (MFIval x.HM)
theorem NdO.below {w w' : World} {l u : Nat} {A : Array Value} {x : NdX} (h : NdO w l u A x) (hb : Below w.heap.size w w') : NdO w' l u A x := by
  obtain ⟨aa, ac, pa, pc, ha, hc, e, hl, h1, h2, h3⟩ := h
  exact ⟨aa, ac, pa, pc, ha, hc, e, hl, h1.below hb, h2.below hb, h3.below hb⟩
theorem NdO.btw {w w' : World} {l u l' u' : Nat} {A : Array Value} {x : NdX} (h : NdO w l u A x) (hb : Btw l' u' w w') (ho : u ≤ l' ∨ u' ≤ l) : NdO w' l u A x := by
  obtain ⟨aa, ac, pa, pc, ha, hc, e, hl, h1, h2, h3⟩ := h
  exact ⟨aa, ac, pa, pc, ha, hc, e, hl, h1.btw hb ho, h2.btw hb ho, h3.btw hb ho⟩
theorem NdO.src {w : World} {l u : Nat} {A : Array Value} {x : NdX} (h : NdO w l u A x) : NdS w A x := by
  obtain ⟨aa, ac, pa, pc, ha, hc, e, hl, h1, h2, h3⟩ := h
  refine ⟨aa, ac, pa, pc, ha, hc, e, ?_, h1.rw, h2.rw, h3.rw⟩
  unfold maxLen
  omega
theorem NdO.size {w : World} {l u : Nat} {A : Array Value} {x : NdX} (h : NdO w l u A x) : A.size = 16 := h.src.size
theorem NdO.one {w : World} {l u : Nat} {A : Array Value} {x : NdX} (h : NdO w l u A x) : ∀ v ∈ A.toList, v.oneCell' = true := h.src.one
def NdM (w : World) (A : Array Value) (x : NdX) (q : Int) : Prop := ∃ aa ac pa pc ha hc, A = ndV x aa ac pa pc ha hc ∧ (x.na ≤ 1048576 ∧ x.np ≤ 1048576 ∧ x.nh ≤ 1048576) ∧ SrcC w aa (x.na * 4) (mkAsk q) ∧ SrcC w pa (x.np * 5) (mkPeer (q + (x.na : Int) * 4)) ∧ SrcC w ha (x.nh * 2) (mkIval (q + (x.na : Int) * 4 + (x.np : Int) * 5))
theorem NdM.below {w w' : World} {A : Array Value} {x : NdX} {q : Int} (h : NdM w A x q) (hb : Below w.heap.size w w') : NdM w' A x q := by
  obtain ⟨aa, ac, pa, pc, ha, hc, e, hl, h1, h2, h3⟩ := h
  exact ⟨aa, ac, pa, pc, ha, hc, e, hl, h1.below hb, h2.below hb, h3.below hb⟩
end Go.Proofs.Ytlllbahfjihepaa
namespace Go.Proofs.Ytlllbahfjihepaa
open Go.RowKit
set_option linter.unusedVariables false
def Bx3 (w : World) (j : Nat) (u0 u1 u2 : Value) : Prop := j < w.heap.size ∧ w.cell? ⟨j, 0, none⟩ = some u0 ∧ w.cell? ⟨j, 1, none⟩ = some u1 ∧ w.cell? ⟨j, 2, none⟩ = some u2 ∧ w.frozen? ⟨j, 0, none⟩ = false ∧ w.frozen? ⟨j, 1, none⟩ = false ∧ w.frozen? ⟨j, 2, none⟩ = false
theorem Bx3.below {w w' : World} {j : Nat} {u0 u1 u2 : Value} (h : Bx3 w j u0 u1 u2) (hb : Below w.heap.size w w') : Bx3 w' j u0 u1 u2 := by
  obtain ⟨h0, h1, h2, h3, h4, h5, h6⟩ := h
  exact ⟨Nat.lt_of_lt_of_le h0 hb.size, by rw [hb.cell (p := ⟨j, 0, none⟩) h0]; exact h1, by rw [hb.cell (p := ⟨j, 1, none⟩) h0]; exact h2, by rw [hb.cell (p := ⟨j, 2, none⟩) h0]; exact h3, by rw [hb.frozen (p := ⟨j, 0, none⟩) h0]; exact h4, by rw [hb.frozen (p := ⟨j, 1, none⟩) h0]; exact h5, by rw [hb.frozen (p := ⟨j, 2, none⟩) h0]; exact h6⟩
theorem Bx3.drew {w : World} {j : Nat} {u0 u1 u2 : Value} (h : Bx3 w j u0 u1 u2) : Bx3 w.drew j u0 u1 u2 := h
theorem Bx3.new (w : World) (u0 u1 u2 : Value) (T : TypeId) : Bx3 (w.alloc (.cells #[u0, u1, u2] T)) w.heap.size u0 u1 u2 := ⟨by simp, by simp, by simp, by simp, by simp, by simp, by simp⟩
theorem Bx3.set {w : World} {j : Nat} {u0 u1 u2 : Value} (h : Bx3 w j u0 u1 u2) (a0 a1 a2 : Value) : Bx3 (((w.setCell ⟨j, 0, none⟩ a0).setCell ⟨j, 1, none⟩ a1).setCell ⟨j, 2, none⟩ a2) j a0 a1 a2 := by
  obtain ⟨h0, h1, h2, h3, h4, h5, h6⟩ := h
  have e1 : (w.setCell ⟨j, 0, none⟩ a0).cell? ⟨j, 1, none⟩ = some u1 := (World.cell?_setCell_other _ _ _ _ (by simp)).trans h2
  have e2 : ((w.setCell ⟨j, 0, none⟩ a0).setCell ⟨j, 1, none⟩ a1).cell? ⟨j, 2, none⟩ = some u2 := (World.cell?_setCell_other _ _ _ _ (by simp)).trans ((World.cell?_setCell_other _ _ _ _ (by simp)).trans h3)
  refine ⟨by simpa using h0, ?_, ?_, World.cell?_setCell_same _ _ _ e2, by simpa using h4, by simpa using h5, by simpa using h6⟩
  · exact (World.cell?_setCell_other _ _ _ _ (by simp)).trans ((World.cell?_setCell_other _ _ _ _ (by simp)).trans (World.cell?_setCell_same _ _ _ h1))
  · exact (World.cell?_setCell_other _ _ _ _ (by simp)).trans (World.cell?_setCell_same _ _ _ e1)
theorem Bx3.set1 {w : World} {j : Nat} {u0 u1 u2 : Value} (h : Bx3 w j u0 u1 u2) (a1 : Value) : Bx3 (w.setCell ⟨j, 1, none⟩ a1) j u0 a1 u2 := by
  obtain ⟨h0, h1, h2, h3, h4, h5, h6⟩ := h
  exact ⟨by simpa using h0, (World.cell?_setCell_other _ _ _ _ (by simp)).trans h1, World.cell?_setCell_same _ _ _ h2, (World.cell?_setCell_other _ _ _ _ (by simp)).trans h3, by simpa using h4, by simpa using h5, by simpa using h6⟩
theorem Bx3.set2 {w : World} {j : Nat} {u0 u1 u2 : Value} (h : Bx3 w j u0 u1 u2) (a2 : Value) : Bx3 (w.setCell ⟨j, 2, none⟩ a2) j u0 u1 a2 := by
  obtain ⟨h0, h1, h2, h3, h4, h5, h6⟩ := h
  exact ⟨by simpa using h0, (World.cell?_setCell_other _ _ _ _ (by simp)).trans h1, (World.cell?_setCell_other _ _ _ _ (by simp)).trans h2, World.cell?_setCell_same _ _ _ h3, by simpa using h4, by simpa using h5, by simpa using h6⟩
def Froms (w : World) (ad : Addr) (M : Nat → KT) (n : Nat) : Prop := n = 0 ∨ (ad.spot = none ∧ Cs w ad.block ad.off (n * 4) (MFAsk M))
theorem Froms.below {w w' : World} {ad : Addr} {M : Nat → KT} {n : Nat} (h : Froms w ad M n) (hb : Below w.heap.size w w') : Froms w' ad M n := by
  rcases h with h | ⟨hs, h⟩
  · exact .inl h
  · exact .inr ⟨hs, h.below hb h.1⟩
theorem Froms.src {w : World} {ad : Addr} {M : Nat → KT} {n : Nat} (h : Froms w ad M n) : SrcC w (some ad) (n * 4) (MFAsk M) := by
  rcases h with h | ⟨hs, h⟩
  · exact .inl (by omega)
  · obtain ⟨b, off, s⟩ := ad
    simp only at hs h
    subst hs
    exact .inr ⟨b, off, rfl, h⟩
def FromsO (w : World) (A : Option Addr) (M : Nat → KT) (n c : Nat) : Prop := (A = none ∧ n = 0 ∧ c = 0) ∨ ∃ ad, A = some ad ∧ Froms w ad M n
theorem FromsO.below {w w' : World} {A : Option Addr} {M : Nat → KT} {n c : Nat} (h : FromsO w A M n c) (hb : Below w.heap.size w w') : FromsO w' A M n c := by
  rcases h with h | ⟨ad, e, h⟩
  · exact .inl h
  · exact .inr ⟨ad, e, h.below hb⟩
theorem FromsO.src {w : World} {A : Option Addr} {M : Nat → KT} {n c : Nat} (h : FromsO w A M n c) : SrcC w A (n * 4) (MFAsk M) := by
  rcases h with ⟨_, h, _⟩ | ⟨ad, rfl, h⟩
  · exact .inl (by omega)
  · exact h.src
end Go.Proofs.Ytlllbahfjihepaa
namespace Go.Proofs.Ytlllbahfjihepaa
open Go.RowKit
set_option linter.unusedVariables false
theorem Nx16.put {w : World} {k : Nat} {a0 a1 a2 a3 a4 a5 a6 a7 a8 a9 a10 a11 a12 a13 a14 a15 : Value} (h : Nx16 w k a0 a1 a2 a3 a4 a5 a6 a7 a8 a9 a10 a11 a12 a13 a14 a15) (u0 u1 u2 u3 u4 u5 u6 u7 u8 u9 u10 u11 u12 u13 u14 u15 : Value) : Nx16 (((((((((((((((((w).setCell ⟨k, 0, none⟩ u0).setCell ⟨k, 1, none⟩ u1).setCell ⟨k, 2, none⟩ u2).setCell ⟨k, 3, none⟩ u3).setCell ⟨k, 4, none⟩ u4).setCell ⟨k, 5, none⟩ u5).setCell ⟨k, 6, none⟩ u6).setCell ⟨k, 7, none⟩ u7).setCell ⟨k, 8, none⟩ u8).setCell ⟨k, 9, none⟩ u9).setCell ⟨k, 10, none⟩ u10).setCell ⟨k, 11, none⟩ u11).setCell ⟨k, 12, none⟩ u12).setCell ⟨k, 13, none⟩ u13).setCell ⟨k, 14, none⟩ u14).setCell ⟨k, 15, none⟩ u15) k u0 u1 u2 u3 u4 u5 u6 u7 u8 u9 u10 u11 u12 u13 u14 u15 := ((((((((((((((((h.set0 u0).set1 u1).set2 u2).set3 u3).set4 u4).set5 u5).set6 u6).set7 u7).set8 u8).set9 u9).set10 u10).set11 u11).set12 u12).set13 u13).set14 u14).set15 u15)
theorem Below.put16 {B : Nat} {v w : World} (h : Below B v w) {k : Nat} (hk : B ≤ k) (u0 u1 u2 u3 u4 u5 u6 u7 u8 u9 u10 u11 u12 u13 u14 u15 : Value) : Below B v (((((((((((((((((w).setCell ⟨k, 0, none⟩ u0).setCell ⟨k, 1, none⟩ u1).setCell ⟨k, 2, none⟩ u2).setCell ⟨k, 3, none⟩ u3).setCell ⟨k, 4, none⟩ u4).setCell ⟨k, 5, none⟩ u5).setCell ⟨k, 6, none⟩ u6).setCell ⟨k, 7, none⟩ u7).setCell ⟨k, 8, none⟩ u8).setCell ⟨k, 9, none⟩ u9).setCell ⟨k, 10, none⟩ u10).setCell ⟨k, 11, none⟩ u11).setCell ⟨k, 12, none⟩ u12).setCell ⟨k, 13, none⟩ u13).setCell ⟨k, 14, none⟩ u14).setCell ⟨k, 15, none⟩ u15) := ((((((((((((((((h.setCell (p := ⟨k, 0, none⟩) hk u0).setCell (p := ⟨k, 1, none⟩) hk u1).setCell (p := ⟨k, 2, none⟩) hk u2).setCell (p := ⟨k, 3, none⟩) hk u3).setCell (p := ⟨k, 4, none⟩) hk u4).setCell (p := ⟨k, 5, none⟩) hk u5).setCell (p := ⟨k, 6, none⟩) hk u6).setCell (p := ⟨k, 7, none⟩) hk u7).setCell (p := ⟨k, 8, none⟩) hk u8).setCell (p := ⟨k, 9, none⟩) hk u9).setCell (p := ⟨k, 10, none⟩) hk u10).setCell (p := ⟨k, 11, none⟩) hk u11).setCell (p := ⟨k, 12, none⟩) hk u12).setCell (p := ⟨k, 13, none⟩) hk u13).setCell (p := ⟨k, 14, none⟩) hk u14).setCell (p := ⟨k, 15, none⟩) hk u15)
theorem Nx16.load {P : Program} {w : World} {k : Nat} {u0 u1 u2 u3 u4 u5 u6 u7 u8 u9 u10 u11 u12 u13 u14 u15 : Value} (h : Nx16 w k u0 u1 u2 u3 u4 u5 u6 u7 u8 u9 u10 u11 u12 u13 u14 u15) : (loadCells ⟨k, 0, none⟩ 16).run P w = .ok #[u0, u1, u2, u3, u4, u5, u6, u7, u8, u9, u10, u11, u12, u13, u14, u15] w := by
  obtain ⟨h0, h1, h2, h3, h4, h5, h6, h7, h8, h9, h10, h11, h12, h13, h14, h15, h16, f1, f2, f3, f4, f5, f6, f7, f8, f9, f10, f11, f12, f13, f14, f15, f16⟩ := h
  refine run_loadCells_list (P := P) w ⟨k, 0, none⟩ [u0, u1, u2, u3, u4, u5, u6, u7, u8, u9, u10, u11, u12, u13, u14, u15] (fun j v hj => ?_)
  rcases j with _|_|_|_|_|_|_|_|_|_|_|_|_|_|_|_|j
  all_goals (simp [Addr.add] at hj ⊢)
  all_goals (subst hj; assumption)
theorem run_storeCells_one {P : Program} {w : World} {k : Nat} {v : Value} {vs : List Value} {i : Nat} {u : Value} (hc : w.cell? ⟨k, i, none⟩ = some u) (hf : w.frozen? ⟨k, i, none⟩ = false) (hv : v.oneCell' = true) : (storeCells ⟨k, 0, none⟩ (v :: vs) i).run P w = (storeCells ⟨k, 0, none⟩ vs (i + 1)).run P (w.setCell ⟨k, i, none⟩ v) := by
  have e : (⟨k, 0, none⟩ : Addr).add i = ⟨k, i, none⟩ := by unfold Addr.add; split <;> simp_all
  rw [storeCells, Sem.run_bind, e, run_store _ _ _ _ _ hv, hc]
  simp [hf, Result.andThen]
theorem Nx16.store {P : Program} {w : World} {k : Nat} {a0 a1 a2 a3 a4 a5 a6 a7 a8 a9 a10 a11 a12 a13 a14 a15 : Value} (h : Nx16 w k a0 a1 a2 a3 a4 a5 a6 a7 a8 a9 a10 a11 a12 a13 a14 a15) {u0 u1 u2 u3 u4 u5 u6 u7 u8 u9 u10 u11 u12 u13 u14 u15 : Value} (o0 : u0.oneCell' = true) (o1 : u1.oneCell' = true) (o2 : u2.oneCell' = true) (o3 : u3.oneCell' = true) (o4 : u4.oneCell' = true) (o5 : u5.oneCell' = true) (o6 : u6.oneCell' = true) (o7 : u7.oneCell' = true) (o8 : u8.oneCell' = true) (o9 : u9.oneCell' = true) (o10 : u10.oneCell' = true) (o11 : u11.oneCell' = true) (o12 : u12.oneCell' = true) (o13 : u13.oneCell' = true) (o14 : u14.oneCell' = true) (o15 : u15.oneCell' = true) : (storeCells ⟨k, 0, none⟩ [u0, u1, u2, u3, u4, u5, u6, u7, u8, u9, u10, u11, u12, u13, u14, u15]).run P w = .ok () (((((((((((((((((w).setCell ⟨k, 0, none⟩ u0).setCell ⟨k, 1, none⟩ u1).setCell ⟨k, 2, none⟩ u2).setCell ⟨k, 3, none⟩ u3).setCell ⟨k, 4, none⟩ u4).setCell ⟨k, 5, none⟩ u5).setCell ⟨k, 6, none⟩ u6).setCell ⟨k, 7, none⟩ u7).setCell ⟨k, 8, none⟩ u8).setCell ⟨k, 9, none⟩ u9).setCell ⟨k, 10, none⟩ u10).setCell ⟨k, 11, none⟩ u11).setCell ⟨k, 12, none⟩ u12).setCell ⟨k, 13, none⟩ u13).setCell ⟨k, 14, none⟩ u14).setCell ⟨k, 15, none⟩ u15) := by
  have c0 := (h).2.1
  have g0 := (h).2.2.2.2.2.2.2.2.2.2.2.2.2.2.2.2.2.1
  have H1 := (h).set0 u0
  have c1 := (H1).2.2.1
  have g1 := (H1).2.2.2.2.2.2.2.2.2.2.2.2.2.2.2.2.2.2.1
  have H2 := (H1).set1 u1
  have c2 := (H2).2.2.2.1
  have g2 := (H2).2.2.2.2.2.2.2.2.2.2.2.2.2.2.2.2.2.2.2.1
  have H3 := (H2).set2 u2
  have c3 := (H3).2.2.2.2.1
  have g3 := (H3).2.2.2.2.2.2.2.2.2.2.2.2.2.2.2.2.2.2.2.2.1
  have H4 := (H3).set3 u3
  have c4 := (H4).2.2.2.2.2.1
  have g4 := (H4).2.2.2.2.2.2.2.2.2.2.2.2.2.2.2.2.2.2.2.2.2.1
  have H5 := (H4).set4 u4
  have c5 := (H5).2.2.2.2.2.2.1
  have g5 := (H5).2.2.2.2.2.2.2.2.2.2.2.2.2.2.2.2.2.2.2.2.2.2.1
  have H6 := (H5).set5 u5
  have c6 := (H6).2.2.2.2.2.2.2.1
  have g6 := (H6).2.2.2.2.2.2.2.2.2.2.2.2.2.2.2.2.2.2.2.2.2.2.2.1
  have H7 := (H6).set6 u6
  have c7 := (H7).2.2.2.2.2.2.2.2.1
  have g7 := (H7).2.2.2.2.2.2.2.2.2.2.2.2.2.2.2.2.2.2.2.2.2.2.2.2.1
  have H8 := (H7).set7 u7
  have c8 := (H8).2.2.2.2.2.2.2.2.2.1
  have g8 := (H8).2.2.2.2.2.2.2.2.2.2.2.2.2.2.2.2.2.2.2.2.2.2.2.2.2.1
  have H9 := (H8).set8 u8
  have c9 := (H9).2.2.2.2.2.2.2.2.2.2.1
  have g9 := (H9).2.2.2.2.2.2.2.2.2.2.2.2.2.2.2.2.2.2.2.2.2.2.2.2.2.2.1
  have H10 := (H9).set9 u9
  have c10 := (H10).2.2.2.2.2.2.2.2.2.2.2.1
  have g10 := (H10).2.2.2.2.2.2.2.2.2.2.2.2.2.2.2.2.2.2.2.2.2.2.2.2.2.2.2.1
  have H11 := (H10).set10 u10
  have c11 := (H11).2.2.2.2.2.2.2.2.2.2.2.2.1
  have g11 := (H11).2.2.2.2.2.2.2.2.2.2.2.2.2.2.2.2.2.2.2.2.2.2.2.2.2.2.2.2.1
  have H12 := (H11).set11 u11
  have c12 := (H12).2.2.2.2.2.2.2.2.2.2.2.2.2.1
  have g12 := (H12).2.2.2.2.2.2.2.2.2.2.2.2.2.2.2.2.2.2.2.2.2.2.2.2.2.2.2.2.2.1
  have H13 := (H12).set12 u12
  have c13 := (H13).2.2.2.2.2.2.2.2.2.2.2.2.2.2.1
  have g13 := (H13).2.2.2.2.2.2.2.2.2.2.2.2.2.2.2.2.2.2.2.2.2.2.2.2.2.2.2.2.2.2.1
  have H14 := (H13).set13 u13
  have c14 := (H14).2.2.2.2.2.2.2.2.2.2.2.2.2.2.2.1
  have g14 := (H14).2.2.2.2.2.2.2.2.2.2.2.2.2.2.2.2.2.2.2.2.2.2.2.2.2.2.2.2.2.2.2.1
  have H15 := (H14).set14 u14
  have c15 := (H15).2.2.2.2.2.2.2.2.2.2.2.2.2.2.2.2.1
  have g15 := (H15).2.2.2.2.2.2.2.2.2.2.2.2.2.2.2.2.2.2.2.2.2.2.2.2.2.2.2.2.2.2.2.2
  have H16 := (H15).set15 u15
  rw [run_storeCells_one c0 g0 o0]
  rw [run_storeCells_one c1 g1 o1]
  rw [run_storeCells_one c2 g2 o2]
  rw [run_storeCells_one c3 g3 o3]
  rw [run_storeCells_one c4 g4 o4]
  rw [run_storeCells_one c5 g5 o5]
  rw [run_storeCells_one c6 g6 o6]
  rw [run_storeCells_one c7 g7 o7]
  rw [run_storeCells_one c8 g8 o8]
  rw [run_storeCells_one c9 g9 o9]
  rw [run_storeCells_one c10 g10 o10]
  rw [run_storeCells_one c11 g11 o11]
  rw [run_storeCells_one c12 g12 o12]
  rw [run_storeCells_one c13 g13 o13]
  rw [run_storeCells_one c14 g14 o14]
  rw [run_storeCells_one c15 g15 o15]
  rfl
end Go.Proofs.Ytlllbahfjihepaa
namespace Go.Proofs.Ytlllbahfjihepaa
open Go.RowKit
set_option linter.unusedVariables false
set_option maxHeartbeats 2000000 in
theorem toApp_any (h : Bool) (l : Int) (w : World) :
    Calls Try.prog 46 #[.agg #[.bool h, .int .i64 l]] w fun e w' => e = .returned (.agg #[.bool h, .int .i64 l]) ∧ Below w.heap.size w w' := by
  go_enter Try.func46, Try.ntmps46
  go_wp2
  exact bodyPost_ret (v := .agg #[.bool h, .int .i64 l]) (by simp [results, Try.results46, go_sem]) rfl ⟨rfl, by repeat (first | exact Below.refl _ _ | refine Below.drew ?_ | refine Below.alloc ?_ (by first | (simp; done) | (simp; omega) | omega) _ | refine Below.setCell ?_ (by first | (simp; done) | (simp; omega) | omega) _ | refine Below.trans ?_ (Below.mono (by assumption) (by first | (simp; done) | (simp; omega) | omega)))⟩
set_option maxHeartbeats 2000000 in
theorem eqApp_same (h : Bool) (l : Int) (w : World) :
    Calls Try.prog 53 #[.agg #[.bool h, .int .i64 l], .agg #[.bool h, .int .i64 l]] w fun e w' => e = .returned (.bool true) ∧ Below w.heap.size w w' := by
  have hx : (h != h) = false := by simp
  go_enter Try.func53, Try.ntmps53
  go_wp2
  go_ret
  exact ⟨rfl, by repeat (first | exact Below.refl _ _ | refine Below.drew ?_ | refine Below.alloc ?_ (by first | (simp; done) | (simp; omega) | omega) _ | refine Below.setCell ?_ (by first | (simp; done) | (simp; omega) | omega) _ | refine Below.trans ?_ (Below.mono (by assumption) (by first | (simp; done) | (simp; omega) | omega)))⟩
end Go.Proofs.Ytlllbahfjihepaa
namespace Go.Proofs.Ytlllbahfjihepaa
open Go.RowKit
set_option linter.unusedVariables false
set_option maxHeartbeats 2000000 in
theorem toLife_any (m e s : Int) (w : World) :
    Calls Try.prog 42 #[.agg #[.int .i64 m, .int .i64 e, .int .i64 s]] w fun x w' => x = .returned (.agg #[.int .i64 m, .int .i64 e, .int .i64 s]) ∧ Below w.heap.size w w' := by
  go_enter Try.func42, Try.ntmps42
  go_wp2_with fail
  exact bodyPost_ret (v := .agg #[.int .i64 m, .int .i64 e, .int .i64 s]) (by simp (maxDischargeDepth := 6) [results, Try.results42, go_sem, *]) rfl ⟨rfl, by repeat (first | exact Below.refl _ _ | refine Below.drew ?_ | refine Below.alloc ?_ (by first | (simp; done) | (simp; omega) | omega) _ | refine Below.setCell ?_ (by first | (simp; done) | (simp; omega) | omega) _ | refine Below.trans ?_ (Below.mono (by assumption) (by first | (simp; done) | (simp; omega) | omega)))⟩
set_option maxHeartbeats 2000000 in
theorem eqLife_same (m e s : Int) (w : World) :
    Calls Try.prog 49 #[.agg #[.int .i64 m, .int .i64 e, .int .i64 s], .agg #[.int .i64 m, .int .i64 e, .int .i64 s]] w fun x w' => x = .returned (.bool true) ∧ Below w.heap.size w w' := by
  go_enter Try.func49, Try.ntmps49
  go_wp2_with fail
  go_ret
  exact ⟨rfl, by repeat (first | exact Below.refl _ _ | refine Below.drew ?_ | refine Below.alloc ?_ (by first | (simp; done) | (simp; omega) | omega) _ | refine Below.setCell ?_ (by first | (simp; done) | (simp; omega) | omega) _ | refine Below.trans ?_ (Below.mono (by assumption) (by first | (simp; done) | (simp; omega) | omega)))⟩
end Go.Proofs.Ytlllbahfjihepaa
namespace Go.Proofs.Ytlllbahfjihepaa
open Go.RowKit
set_option linter.unusedVariables false
theorem rowF_set {w : World} {b N m : Nat} {T : TypeId} {F : Nat → Value} (h : RowF w b T N m F) {k : Nat} (hk : k < b) (o : Nat) (u : Value) : RowF (w.setCell ⟨k, o, none⟩ u) b T N m F := by
  obtain ⟨gg, hr, hh⟩ := h
  exact ⟨gg, hr.setOther (a := ⟨k, o, none⟩) (by show b ≠ k; omega) _, hh⟩
attribute [-go_sem] loadCells in
set_option maxRecDepth 100000 in
set_option maxHeartbeats 8000000 in
theorem toNode_any (ni mo ep si : Int) (kn : Bool) (lo hi la te us : Int) (aa : Option Addr) (na ac : Nat) (AM : Nat → KT) (pa : Option Addr) (np pc : Nat) (QM : Nat → PT) (hs : Bool) (ls : Int) (ha : Option Addr) (nh hc : Nat) (HM : Nat → VT) (se : Int) (w : World) (hna : na ≤ 1048576) (sA : SrcC w aa (na * 4) (MFAsk AM)) (hnp : np ≤ 1048576) (sP : SrcC w pa (np * 5) (MFPeer QM)) (hnh : nh ≤ 1048576) (sH : SrcC w ha (nh * 2) (MFIval HM)) :
    Calls Try.prog 13 #[.agg #[.int .i64 ni, .int .i64 mo, .int .i64 ep, .int .i64 si, .bool kn, .int .i64 lo, .int .i64 hi, .int .i64 la, .int .i64 te, .int .i64 us, .slice aa na ac, .slice pa np pc, .bool hs, .int .i64 ls, .slice ha nh hc, .int .i64 se]] w fun e w' => ∃ jA jP jH, e = .returned (.agg #[.int .i64 ni, .int .i64 mo, .int .i64 ep, .int .i64 si, .bool kn, .int .i64 lo, .int .i64 hi, .int .i64 la, .int .i64 te, .int .i64 us, .slice (some ⟨jA, 0, none⟩) na na, .slice (some ⟨jP, 0, none⟩) np np, .bool hs, .int .i64 ls, .slice (some ⟨jH, 0, none⟩) nh nh, .int .i64 se]) ∧ w.heap.size ≤ jA ∧ jA < jP ∧ jP < jH ∧ RowF (w') jA 118 (na * 4) (na * 4) (MFAsk AM) ∧ RowF (w') jP 94 (np * 5) (np * 5) (MFPeer QM) ∧ RowF (w') jH 122 (nh * 2) (nh * 2) (MFIval HM) ∧ Below w.heap.size w w' := by
  have A0 := Below.nw w (.cells #[.int .i64 ni, .int .i64 mo, .int .i64 ep, .int .i64 si, .bool kn, .int .i64 lo, .int .i64 hi, .int .i64 la, .int .i64 te, .int .i64 us, .slice aa na ac, .slice pa np pc, .bool hs, .int .i64 ls, .slice ha nh hc, .int .i64 se] 54)
  have A1 := Below.nw (w.alloc (.cells #[.int .i64 ni, .int .i64 mo, .int .i64 ep, .int .i64 si, .bool kn, .int .i64 lo, .int .i64 hi, .int .i64 la, .int .i64 te, .int .i64 us, .slice aa na ac, .slice pa np pc, .bool hs, .int .i64 ls, .slice ha nh hc, .int .i64 se] 54)) (.cells #[.int .i64 0, .int .i64 0, .int .i64 0, .int .i64 0, .bool false, .int .i64 0, .int .i64 0, .int .i64 0, .int .i64 0, .int .i64 0, .slice none 0 0, .slice none 0 0, .bool false, .int .i64 0, .slice none 0 0, .int .i64 0] 68)
  have A2 := Below.nw ((w.alloc (.cells #[.int .i64 ni, .int .i64 mo, .int .i64 ep, .int .i64 si, .bool kn, .int .i64 lo, .int .i64 hi, .int .i64 la, .int .i64 te, .int .i64 us, .slice aa na ac, .slice pa np pc, .bool hs, .int .i64 ls, .slice ha nh hc, .int .i64 se] 54)).alloc (.cells #[.int .i64 0, .int .i64 0, .int .i64 0, .int .i64 0, .bool false, .int .i64 0, .int .i64 0, .int .i64 0, .int .i64 0, .int .i64 0, .slice none 0 0, .slice none 0 0, .bool false, .int .i64 0, .slice none 0 0, .int .i64 0] 68)) (.cells #[.int .i64 0, .int .i64 0, .int .i64 0, .int .i64 0, .bool false, .int .i64 0, .int .i64 0, .int .i64 0, .int .i64 0, .int .i64 0, .slice none 0 0, .slice none 0 0, .bool false, .int .i64 0, .slice none 0 0, .int .i64 0] 68)
  have N := ((Nx16.new w (.int .i64 ni) (.int .i64 mo) (.int .i64 ep) (.int .i64 si) (.bool kn) (.int .i64 lo) (.int .i64 hi) (.int .i64 la) (.int .i64 te) (.int .i64 us) (.slice aa na ac) (.slice pa np pc) (.bool hs) (.int .i64 ls) (.slice ha nh hc) (.int .i64 se) 54).below A1).below A2
  have R := (Nx16.new (w.alloc (.cells #[.int .i64 ni, .int .i64 mo, .int .i64 ep, .int .i64 si, .bool kn, .int .i64 lo, .int .i64 hi, .int .i64 la, .int .i64 te, .int .i64 us, .slice aa na ac, .slice pa np pc, .bool hs, .int .i64 ls, .slice ha nh hc, .int .i64 se] 54)) (.int .i64 0) (.int .i64 0) (.int .i64 0) (.int .i64 0) (.bool false) (.int .i64 0) (.int .i64 0) (.int .i64 0) (.int .i64 0) (.int .i64 0) (.slice none 0 0) (.slice none 0 0) (.bool false) (.int .i64 0) (.slice none 0 0) (.int .i64 0) 68).below A2
  have X := Nx16.new ((w.alloc (.cells #[.int .i64 ni, .int .i64 mo, .int .i64 ep, .int .i64 si, .bool kn, .int .i64 lo, .int .i64 hi, .int .i64 la, .int .i64 te, .int .i64 us, .slice aa na ac, .slice pa np pc, .bool hs, .int .i64 ls, .slice ha nh hc, .int .i64 se] 54)).alloc (.cells #[.int .i64 0, .int .i64 0, .int .i64 0, .int .i64 0, .bool false, .int .i64 0, .int .i64 0, .int .i64 0, .int .i64 0, .int .i64 0, .slice none 0 0, .slice none 0 0, .bool false, .int .i64 0, .slice none 0 0, .int .i64 0] 68)) (.int .i64 0) (.int .i64 0) (.int .i64 0) (.int .i64 0) (.bool false) (.int .i64 0) (.int .i64 0) (.int .i64 0) (.int .i64 0) (.int .i64 0) (.slice none 0 0) (.slice none 0 0) (.bool false) (.int .i64 0) (.slice none 0 0) (.int .i64 0) 68
  have B := (A0.trans (A1.mono A0.size)).trans (A2.mono (A0.trans (A1.mono A0.size)).size)
  have hj : w.heap.size + 3 ≤ (((w.alloc (.cells #[.int .i64 ni, .int .i64 mo, .int .i64 ep, .int .i64 si, .bool kn, .int .i64 lo, .int .i64 hi, .int .i64 la, .int .i64 te, .int .i64 us, .slice aa na ac, .slice pa np pc, .bool hs, .int .i64 ls, .slice ha nh hc, .int .i64 se] 54)).alloc (.cells #[.int .i64 0, .int .i64 0, .int .i64 0, .int .i64 0, .bool false, .int .i64 0, .int .i64 0, .int .i64 0, .int .i64 0, .int .i64 0, .slice none 0 0, .slice none 0 0, .bool false, .int .i64 0, .slice none 0 0, .int .i64 0] 68)).alloc (.cells #[.int .i64 0, .int .i64 0, .int .i64 0, .int .i64 0, .bool false, .int .i64 0, .int .i64 0, .int .i64 0, .int .i64 0, .int .i64 0, .slice none 0 0, .slice none 0 0, .bool false, .int .i64 0, .slice none 0 0, .int .i64 0] 68)).heap.size := by simp
  simp only [World.size_alloc] at R X
  clear A0 A1 A2
  have C1 := fun w' => toLife_any mo ep si w'
  have C2 := fun w' => toLocal_any kn lo hi la w'
  have C3 := fun (w' : World) (h : Below w.heap.size w w') => toTable_any te us aa na ac AM w' hna (sA.below h)
  have C4 := fun (w' : World) (h : Below w.heap.size w w') => toPeerS_any pa np pc QM w' hnp (sP.below h)
  have C5 := fun w' => toApp_any hs ls w'
  have C6 := fun (w' : World) (h : Below w.heap.size w w') => toHeardS_any ha nh hc HM w' hnh (sH.below h)
  have l2 : ∀ a, loadCells a 2 = loadCellsFrom a 0 2 #[] := fun _ => rfl
  have l3 : ∀ a, loadCells a 3 = loadCellsFrom a 0 3 #[] := fun _ => rfl
  have l4 : ∀ a, loadCells a 4 = loadCellsFrom a 0 4 #[] := fun _ => rfl
  clear sA sP sH
  go_enter Try.func13, Try.ntmps13
  go_upto_region 2 with fail
  generalize ((w.alloc (.cells #[.int .i64 ni, .int .i64 mo, .int .i64 ep, .int .i64 si, .bool kn, .int .i64 lo, .int .i64 hi, .int .i64 la, .int .i64 te, .int .i64 us, .slice aa na ac, .slice pa np pc, .bool hs, .int .i64 ls, .slice ha nh hc, .int .i64 se] 54)).alloc (.cells #[.int .i64 0, .int .i64 0, .int .i64 0, .int .i64 0, .bool false, .int .i64 0, .int .i64 0, .int .i64 0, .int .i64 0, .int .i64 0, .slice none 0 0, .slice none 0 0, .bool false, .int .i64 0, .slice none 0 0, .int .i64 0] 68)).alloc (.cells #[.int .i64 0, .int .i64 0, .int .i64 0, .int .i64 0, .bool false, .int .i64 0, .int .i64 0, .int .i64 0, .int .i64 0, .int .i64 0, .slice none 0 0, .slice none 0 0, .bool false, .int .i64 0, .slice none 0 0, .int .i64 0] 68) = v at *
  obtain ⟨n0, n1, n2, n3, n4, n5, n6, n7, n8, n9, n10, n11, n12, n13, n14, n15, n16, m0, m1, m2, m3, m4, m5, m6, m7, m8, m9, m10, m11, m12, m13, m14, m15⟩ := id N
  obtain ⟨x0, x1, x2, x3, x4, x5, x6, x7, x8, x9, x10, x11, x12, x13, x14, x15, x16, y0, y1, y2, y3, y4, y5, y6, y7, y8, y9, y10, y11, y12, y13, y14, y15⟩ := id X
  go_upto_region 3 with fail
  clear n0 n1 n2 n3 n4 n5 n6 n7 n8 n9 n10 n11 n12 n13 n14 n15 n16 m0 m1 m2 m3 m4 m5 m6 m7 m8 m9 m10 m11 m12 m13 m14 m15
  clear x0 x1 x2 x3 x4 x5 x6 x7 x8 x9 x10 x11 x12 x13 x14 x15 x16 y0 y1 y2 y3 y4 y5 y6 y7 y8 y9 y10 y11 y12 y13 y14 y15
  replace X := (X.set0 (.int .i64 ni))
  replace N := (N.setO (j := w.heap.size + 2) (by omega) 0 (.int .i64 ni))
  replace R := (R.setO (j := w.heap.size + 2) (by omega) 0 (.int .i64 ni))
  replace B := (B.setCell (p := ⟨w.heap.size + 2, 0, none⟩) (by simp; try omega) (.int .i64 ni))
  replace hj : w.heap.size + 3 ≤ ((v).setCell ⟨w.heap.size + 2, 0, none⟩ (.int .i64 ni)).heap.size := by simpa using hj
  generalize (v).setCell ⟨w.heap.size + 2, 0, none⟩ (.int .i64 ni) = w1 at *
  obtain ⟨n0, n1, n2, n3, n4, n5, n6, n7, n8, n9, n10, n11, n12, n13, n14, n15, n16, m0, m1, m2, m3, m4, m5, m6, m7, m8, m9, m10, m11, m12, m13, m14, m15⟩ := id N
  go_wp2_with fail
  refine (C1 _).mono ?_
  clear C1
  rintro e u2 ⟨rfl, hb⟩
  clear n0 n1 n2 n3 n4 n5 n6 n7 n8 n9 n10 n11 n12 n13 n14 n15 n16 m0 m1 m2 m3 m4 m5 m6 m7 m8 m9 m10 m11 m12 m13 m14 m15
  replace B := B.trans (hb.mono B.size)
  replace N := N.below hb
  replace R := R.below hb
  replace X := X.below hb
  replace hj := Nat.le_trans hj hb.size
  clear hb
  obtain ⟨n0, n1, n2, n3, n4, n5, n6, n7, n8, n9, n10, n11, n12, n13, n14, n15, n16, m0, m1, m2, m3, m4, m5, m6, m7, m8, m9, m10, m11, m12, m13, m14, m15⟩ := id N
  obtain ⟨x0, x1, x2, x3, x4, x5, x6, x7, x8, x9, x10, x11, x12, x13, x14, x15, x16, y0, y1, y2, y3, y4, y5, y6, y7, y8, y9, y10, y11, y12, y13, y14, y15⟩ := id X
  go_upto_region 4 with fail
  clear n0 n1 n2 n3 n4 n5 n6 n7 n8 n9 n10 n11 n12 n13 n14 n15 n16 m0 m1 m2 m3 m4 m5 m6 m7 m8 m9 m10 m11 m12 m13 m14 m15
  clear x0 x1 x2 x3 x4 x5 x6 x7 x8 x9 x10 x11 x12 x13 x14 x15 x16 y0 y1 y2 y3 y4 y5 y6 y7 y8 y9 y10 y11 y12 y13 y14 y15
  replace X := (((X.set1 (.int .i64 mo)).set2 (.int .i64 ep)).set3 (.int .i64 si))
  replace N := (((N.setO (j := w.heap.size + 2) (by omega) 1 (.int .i64 mo)).setO (j := w.heap.size + 2) (by omega) 2 (.int .i64 ep)).setO (j := w.heap.size + 2) (by omega) 3 (.int .i64 si))
  replace R := (((R.setO (j := w.heap.size + 2) (by omega) 1 (.int .i64 mo)).setO (j := w.heap.size + 2) (by omega) 2 (.int .i64 ep)).setO (j := w.heap.size + 2) (by omega) 3 (.int .i64 si))
  replace B := (((B.setCell (p := ⟨w.heap.size + 2, 1, none⟩) (by simp; try omega) (.int .i64 mo)).setCell (p := ⟨w.heap.size + 2, 2, none⟩) (by simp; try omega) (.int .i64 ep)).setCell (p := ⟨w.heap.size + 2, 3, none⟩) (by simp; try omega) (.int .i64 si))
  replace hj : w.heap.size + 3 ≤ ((((u2).setCell ⟨w.heap.size + 2, 1, none⟩ (.int .i64 mo)).setCell ⟨w.heap.size + 2, 2, none⟩ (.int .i64 ep)).setCell ⟨w.heap.size + 2, 3, none⟩ (.int .i64 si)).heap.size := by simpa using hj
  generalize (((u2).setCell ⟨w.heap.size + 2, 1, none⟩ (.int .i64 mo)).setCell ⟨w.heap.size + 2, 2, none⟩ (.int .i64 ep)).setCell ⟨w.heap.size + 2, 3, none⟩ (.int .i64 si) = w3 at *
  obtain ⟨n0, n1, n2, n3, n4, n5, n6, n7, n8, n9, n10, n11, n12, n13, n14, n15, n16, m0, m1, m2, m3, m4, m5, m6, m7, m8, m9, m10, m11, m12, m13, m14, m15⟩ := id N
  go_wp2_with fail
  refine (C2 _).mono ?_
  clear C2
  rintro e u4 ⟨rfl, hb⟩
  clear n0 n1 n2 n3 n4 n5 n6 n7 n8 n9 n10 n11 n12 n13 n14 n15 n16 m0 m1 m2 m3 m4 m5 m6 m7 m8 m9 m10 m11 m12 m13 m14 m15
  replace B := B.trans (hb.mono B.size)
  replace N := N.below hb
  replace R := R.below hb
  replace X := X.below hb
  replace hj := Nat.le_trans hj hb.size
  clear hb
  obtain ⟨n0, n1, n2, n3, n4, n5, n6, n7, n8, n9, n10, n11, n12, n13, n14, n15, n16, m0, m1, m2, m3, m4, m5, m6, m7, m8, m9, m10, m11, m12, m13, m14, m15⟩ := id N
  obtain ⟨x0, x1, x2, x3, x4, x5, x6, x7, x8, x9, x10, x11, x12, x13, x14, x15, x16, y0, y1, y2, y3, y4, y5, y6, y7, y8, y9, y10, y11, y12, y13, y14, y15⟩ := id X
  go_upto_region 5 with fail
  clear n0 n1 n2 n3 n4 n5 n6 n7 n8 n9 n10 n11 n12 n13 n14 n15 n16 m0 m1 m2 m3 m4 m5 m6 m7 m8 m9 m10 m11 m12 m13 m14 m15
  clear x0 x1 x2 x3 x4 x5 x6 x7 x8 x9 x10 x11 x12 x13 x14 x15 x16 y0 y1 y2 y3 y4 y5 y6 y7 y8 y9 y10 y11 y12 y13 y14 y15
  replace X := ((((X.set4 (.bool kn)).set5 (.int .i64 lo)).set6 (.int .i64 hi)).set7 (.int .i64 la))
  replace N := ((((N.setO (j := w.heap.size + 2) (by omega) 4 (.bool kn)).setO (j := w.heap.size + 2) (by omega) 5 (.int .i64 lo)).setO (j := w.heap.size + 2) (by omega) 6 (.int .i64 hi)).setO (j := w.heap.size + 2) (by omega) 7 (.int .i64 la))
  replace R := ((((R.setO (j := w.heap.size + 2) (by omega) 4 (.bool kn)).setO (j := w.heap.size + 2) (by omega) 5 (.int .i64 lo)).setO (j := w.heap.size + 2) (by omega) 6 (.int .i64 hi)).setO (j := w.heap.size + 2) (by omega) 7 (.int .i64 la))
  replace B := ((((B.setCell (p := ⟨w.heap.size + 2, 4, none⟩) (by simp; try omega) (.bool kn)).setCell (p := ⟨w.heap.size + 2, 5, none⟩) (by simp; try omega) (.int .i64 lo)).setCell (p := ⟨w.heap.size + 2, 6, none⟩) (by simp; try omega) (.int .i64 hi)).setCell (p := ⟨w.heap.size + 2, 7, none⟩) (by simp; try omega) (.int .i64 la))
  replace hj : w.heap.size + 3 ≤ (((((u4).setCell ⟨w.heap.size + 2, 4, none⟩ (.bool kn)).setCell ⟨w.heap.size + 2, 5, none⟩ (.int .i64 lo)).setCell ⟨w.heap.size + 2, 6, none⟩ (.int .i64 hi)).setCell ⟨w.heap.size + 2, 7, none⟩ (.int .i64 la)).heap.size := by simpa using hj
  generalize ((((u4).setCell ⟨w.heap.size + 2, 4, none⟩ (.bool kn)).setCell ⟨w.heap.size + 2, 5, none⟩ (.int .i64 lo)).setCell ⟨w.heap.size + 2, 6, none⟩ (.int .i64 hi)).setCell ⟨w.heap.size + 2, 7, none⟩ (.int .i64 la) = w5 at *
  obtain ⟨n0, n1, n2, n3, n4, n5, n6, n7, n8, n9, n10, n11, n12, n13, n14, n15, n16, m0, m1, m2, m3, m4, m5, m6, m7, m8, m9, m10, m11, m12, m13, m14, m15⟩ := id N
  go_wp2_with fail
  refine (C3 _ B).mono ?_
  clear C3
  rintro e u6 ⟨rfl, RW, hb⟩
  clear n0 n1 n2 n3 n4 n5 n6 n7 n8 n9 n10 n11 n12 n13 n14 n15 n16 m0 m1 m2 m3 m4 m5 m6 m7 m8 m9 m10 m11 m12 m13 m14 m15
  have hA : w.heap.size + 3 ≤ w5.heap.size + 3 := by omega
  replace B := B.trans (hb.mono B.size)
  replace N := N.below hb
  replace R := R.below hb
  replace X := X.below hb
  replace hj := Nat.le_trans hj hb.size
  clear hb
  generalize w5.heap.size + 3 = jA at *
  have HA : Hid (RowF (u6) jA 118 (na * 4) (na * 4) (MFAsk AM)) := RW
  clear RW
  obtain ⟨n0, n1, n2, n3, n4, n5, n6, n7, n8, n9, n10, n11, n12, n13, n14, n15, n16, m0, m1, m2, m3, m4, m5, m6, m7, m8, m9, m10, m11, m12, m13, m14, m15⟩ := id N
  obtain ⟨x0, x1, x2, x3, x4, x5, x6, x7, x8, x9, x10, x11, x12, x13, x14, x15, x16, y0, y1, y2, y3, y4, y5, y6, y7, y8, y9, y10, y11, y12, y13, y14, y15⟩ := id X
  go_upto_region 6 with fail
  clear n0 n1 n2 n3 n4 n5 n6 n7 n8 n9 n10 n11 n12 n13 n14 n15 n16 m0 m1 m2 m3 m4 m5 m6 m7 m8 m9 m10 m11 m12 m13 m14 m15
  clear x0 x1 x2 x3 x4 x5 x6 x7 x8 x9 x10 x11 x12 x13 x14 x15 x16 y0 y1 y2 y3 y4 y5 y6 y7 y8 y9 y10 y11 y12 y13 y14 y15
  replace X := (((X.set8 (.int .i64 te)).set9 (.int .i64 us)).set10 (.slice (some ⟨jA, 0, none⟩) na na))
  replace N := (((N.setO (j := w.heap.size + 2) (by omega) 8 (.int .i64 te)).setO (j := w.heap.size + 2) (by omega) 9 (.int .i64 us)).setO (j := w.heap.size + 2) (by omega) 10 (.slice (some ⟨jA, 0, none⟩) na na))
  replace R := (((R.setO (j := w.heap.size + 2) (by omega) 8 (.int .i64 te)).setO (j := w.heap.size + 2) (by omega) 9 (.int .i64 us)).setO (j := w.heap.size + 2) (by omega) 10 (.slice (some ⟨jA, 0, none⟩) na na))
  replace B := (((B.setCell (p := ⟨w.heap.size + 2, 8, none⟩) (by simp; try omega) (.int .i64 te)).setCell (p := ⟨w.heap.size + 2, 9, none⟩) (by simp; try omega) (.int .i64 us)).setCell (p := ⟨w.heap.size + 2, 10, none⟩) (by simp; try omega) (.slice (some ⟨jA, 0, none⟩) na na))
  replace HA : Hid (RowF ((((u6).setCell ⟨w.heap.size + 2, 8, none⟩ (.int .i64 te)).setCell ⟨w.heap.size + 2, 9, none⟩ (.int .i64 us)).setCell ⟨w.heap.size + 2, 10, none⟩ (.slice (some ⟨jA, 0, none⟩) na na)) jA 118 (na * 4) (na * 4) (MFAsk AM)) := (rowF_set (rowF_set (rowF_set HA.out (by omega) 8 (.int .i64 te)) (by omega) 9 (.int .i64 us)) (by omega) 10 (.slice (some ⟨jA, 0, none⟩) na na))
  replace hj : w.heap.size + 3 ≤ ((((u6).setCell ⟨w.heap.size + 2, 8, none⟩ (.int .i64 te)).setCell ⟨w.heap.size + 2, 9, none⟩ (.int .i64 us)).setCell ⟨w.heap.size + 2, 10, none⟩ (.slice (some ⟨jA, 0, none⟩) na na)).heap.size := by simpa using hj
  generalize (((u6).setCell ⟨w.heap.size + 2, 8, none⟩ (.int .i64 te)).setCell ⟨w.heap.size + 2, 9, none⟩ (.int .i64 us)).setCell ⟨w.heap.size + 2, 10, none⟩ (.slice (some ⟨jA, 0, none⟩) na na) = w7 at *
  obtain ⟨n0, n1, n2, n3, n4, n5, n6, n7, n8, n9, n10, n11, n12, n13, n14, n15, n16, m0, m1, m2, m3, m4, m5, m6, m7, m8, m9, m10, m11, m12, m13, m14, m15⟩ := id N
  go_wp2_with fail
  refine (C4 _ B).mono ?_
  clear C4
  rintro e u8 ⟨rfl, RW, hb⟩
  clear n0 n1 n2 n3 n4 n5 n6 n7 n8 n9 n10 n11 n12 n13 n14 n15 n16 m0 m1 m2 m3 m4 m5 m6 m7 m8 m9 m10 m11 m12 m13 m14 m15
  have hP : w.heap.size + 3 ≤ w7.heap.size := by omega
  have oP : jA < w7.heap.size := by have := RowF.lt HA.out; omega
  replace HA : Hid (RowF (u8) jA 118 (na * 4) (na * 4) (MFAsk AM)) := RowF.below' hb HA.out
  replace B := B.trans (hb.mono B.size)
  replace N := N.below hb
  replace R := R.below hb
  replace X := X.below hb
  replace hj := Nat.le_trans hj hb.size
  clear hb
  generalize w7.heap.size = jP at *
  have HP : Hid (RowF (u8) jP 94 (np * 5) (np * 5) (MFPeer QM)) := RW
  clear RW
  obtain ⟨n0, n1, n2, n3, n4, n5, n6, n7, n8, n9, n10, n11, n12, n13, n14, n15, n16, m0, m1, m2, m3, m4, m5, m6, m7, m8, m9, m10, m11, m12, m13, m14, m15⟩ := id N
  obtain ⟨x0, x1, x2, x3, x4, x5, x6, x7, x8, x9, x10, x11, x12, x13, x14, x15, x16, y0, y1, y2, y3, y4, y5, y6, y7, y8, y9, y10, y11, y12, y13, y14, y15⟩ := id X
  go_upto_region 7 with fail
  clear n0 n1 n2 n3 n4 n5 n6 n7 n8 n9 n10 n11 n12 n13 n14 n15 n16 m0 m1 m2 m3 m4 m5 m6 m7 m8 m9 m10 m11 m12 m13 m14 m15
  clear x0 x1 x2 x3 x4 x5 x6 x7 x8 x9 x10 x11 x12 x13 x14 x15 x16 y0 y1 y2 y3 y4 y5 y6 y7 y8 y9 y10 y11 y12 y13 y14 y15
  replace X := (X.set11 (.slice (some ⟨jP, 0, none⟩) np np))
  replace N := (N.setO (j := w.heap.size + 2) (by omega) 11 (.slice (some ⟨jP, 0, none⟩) np np))
  replace R := (R.setO (j := w.heap.size + 2) (by omega) 11 (.slice (some ⟨jP, 0, none⟩) np np))
  replace B := (B.setCell (p := ⟨w.heap.size + 2, 11, none⟩) (by simp; try omega) (.slice (some ⟨jP, 0, none⟩) np np))
  replace HA : Hid (RowF ((u8).setCell ⟨w.heap.size + 2, 11, none⟩ (.slice (some ⟨jP, 0, none⟩) np np)) jA 118 (na * 4) (na * 4) (MFAsk AM)) := (rowF_set HA.out (by omega) 11 (.slice (some ⟨jP, 0, none⟩) np np))
  replace HP : Hid (RowF ((u8).setCell ⟨w.heap.size + 2, 11, none⟩ (.slice (some ⟨jP, 0, none⟩) np np)) jP 94 (np * 5) (np * 5) (MFPeer QM)) := (rowF_set HP.out (by omega) 11 (.slice (some ⟨jP, 0, none⟩) np np))
  replace hj : w.heap.size + 3 ≤ ((u8).setCell ⟨w.heap.size + 2, 11, none⟩ (.slice (some ⟨jP, 0, none⟩) np np)).heap.size := by simpa using hj
  generalize (u8).setCell ⟨w.heap.size + 2, 11, none⟩ (.slice (some ⟨jP, 0, none⟩) np np) = w9 at *
  obtain ⟨n0, n1, n2, n3, n4, n5, n6, n7, n8, n9, n10, n11, n12, n13, n14, n15, n16, m0, m1, m2, m3, m4, m5, m6, m7, m8, m9, m10, m11, m12, m13, m14, m15⟩ := id N
  go_wp2_with fail
  refine (C5 _).mono ?_
  clear C5
  rintro e u10 ⟨rfl, hb⟩
  clear n0 n1 n2 n3 n4 n5 n6 n7 n8 n9 n10 n11 n12 n13 n14 n15 n16 m0 m1 m2 m3 m4 m5 m6 m7 m8 m9 m10 m11 m12 m13 m14 m15
  replace HA : Hid (RowF (u10) jA 118 (na * 4) (na * 4) (MFAsk AM)) := RowF.below' hb HA.out
  replace HP : Hid (RowF (u10) jP 94 (np * 5) (np * 5) (MFPeer QM)) := RowF.below' hb HP.out
  replace B := B.trans (hb.mono B.size)
  replace N := N.below hb
  replace R := R.below hb
  replace X := X.below hb
  replace hj := Nat.le_trans hj hb.size
  clear hb
  obtain ⟨n0, n1, n2, n3, n4, n5, n6, n7, n8, n9, n10, n11, n12, n13, n14, n15, n16, m0, m1, m2, m3, m4, m5, m6, m7, m8, m9, m10, m11, m12, m13, m14, m15⟩ := id N
  obtain ⟨x0, x1, x2, x3, x4, x5, x6, x7, x8, x9, x10, x11, x12, x13, x14, x15, x16, y0, y1, y2, y3, y4, y5, y6, y7, y8, y9, y10, y11, y12, y13, y14, y15⟩ := id X
  go_upto_region 8 with fail
  clear n0 n1 n2 n3 n4 n5 n6 n7 n8 n9 n10 n11 n12 n13 n14 n15 n16 m0 m1 m2 m3 m4 m5 m6 m7 m8 m9 m10 m11 m12 m13 m14 m15
  clear x0 x1 x2 x3 x4 x5 x6 x7 x8 x9 x10 x11 x12 x13 x14 x15 x16 y0 y1 y2 y3 y4 y5 y6 y7 y8 y9 y10 y11 y12 y13 y14 y15
  replace X := ((X.set12 (.bool hs)).set13 (.int .i64 ls))
  replace N := ((N.setO (j := w.heap.size + 2) (by omega) 12 (.bool hs)).setO (j := w.heap.size + 2) (by omega) 13 (.int .i64 ls))
  replace R := ((R.setO (j := w.heap.size + 2) (by omega) 12 (.bool hs)).setO (j := w.heap.size + 2) (by omega) 13 (.int .i64 ls))
  replace B := ((B.setCell (p := ⟨w.heap.size + 2, 12, none⟩) (by simp; try omega) (.bool hs)).setCell (p := ⟨w.heap.size + 2, 13, none⟩) (by simp; try omega) (.int .i64 ls))
  replace HA : Hid (RowF (((u10).setCell ⟨w.heap.size + 2, 12, none⟩ (.bool hs)).setCell ⟨w.heap.size + 2, 13, none⟩ (.int .i64 ls)) jA 118 (na * 4) (na * 4) (MFAsk AM)) := (rowF_set (rowF_set HA.out (by omega) 12 (.bool hs)) (by omega) 13 (.int .i64 ls))
  replace HP : Hid (RowF (((u10).setCell ⟨w.heap.size + 2, 12, none⟩ (.bool hs)).setCell ⟨w.heap.size + 2, 13, none⟩ (.int .i64 ls)) jP 94 (np * 5) (np * 5) (MFPeer QM)) := (rowF_set (rowF_set HP.out (by omega) 12 (.bool hs)) (by omega) 13 (.int .i64 ls))
  replace hj : w.heap.size + 3 ≤ (((u10).setCell ⟨w.heap.size + 2, 12, none⟩ (.bool hs)).setCell ⟨w.heap.size + 2, 13, none⟩ (.int .i64 ls)).heap.size := by simpa using hj
  generalize ((u10).setCell ⟨w.heap.size + 2, 12, none⟩ (.bool hs)).setCell ⟨w.heap.size + 2, 13, none⟩ (.int .i64 ls) = w11 at *
  obtain ⟨n0, n1, n2, n3, n4, n5, n6, n7, n8, n9, n10, n11, n12, n13, n14, n15, n16, m0, m1, m2, m3, m4, m5, m6, m7, m8, m9, m10, m11, m12, m13, m14, m15⟩ := id N
  go_wp2_with fail
  refine (C6 _ B).mono ?_
  clear C6
  rintro e u12 ⟨rfl, RW, hb⟩
  clear n0 n1 n2 n3 n4 n5 n6 n7 n8 n9 n10 n11 n12 n13 n14 n15 n16 m0 m1 m2 m3 m4 m5 m6 m7 m8 m9 m10 m11 m12 m13 m14 m15
  have hH : w.heap.size + 3 ≤ w11.heap.size := by omega
  have oH : jP < w11.heap.size := by have := RowF.lt HP.out; omega
  replace HA : Hid (RowF (u12) jA 118 (na * 4) (na * 4) (MFAsk AM)) := RowF.below' hb HA.out
  replace HP : Hid (RowF (u12) jP 94 (np * 5) (np * 5) (MFPeer QM)) := RowF.below' hb HP.out
  replace B := B.trans (hb.mono B.size)
  replace N := N.below hb
  replace R := R.below hb
  replace X := X.below hb
  replace hj := Nat.le_trans hj hb.size
  clear hb
  generalize w11.heap.size = jH at *
  have HH : Hid (RowF (u12) jH 122 (nh * 2) (nh * 2) (MFIval HM)) := RW
  clear RW
  obtain ⟨n0, n1, n2, n3, n4, n5, n6, n7, n8, n9, n10, n11, n12, n13, n14, n15, n16, m0, m1, m2, m3, m4, m5, m6, m7, m8, m9, m10, m11, m12, m13, m14, m15⟩ := id N
  obtain ⟨x0, x1, x2, x3, x4, x5, x6, x7, x8, x9, x10, x11, x12, x13, x14, x15, x16, y0, y1, y2, y3, y4, y5, y6, y7, y8, y9, y10, y11, y12, y13, y14, y15⟩ := id X
  go_upto_region 9 with fail
  clear n0 n1 n2 n3 n4 n5 n6 n7 n8 n9 n10 n11 n12 n13 n14 n15 n16 m0 m1 m2 m3 m4 m5 m6 m7 m8 m9 m10 m11 m12 m13 m14 m15
  clear x0 x1 x2 x3 x4 x5 x6 x7 x8 x9 x10 x11 x12 x13 x14 x15 x16 y0 y1 y2 y3 y4 y5 y6 y7 y8 y9 y10 y11 y12 y13 y14 y15
  replace X := (X.set14 (.slice (some ⟨jH, 0, none⟩) nh nh))
  replace N := (N.setO (j := w.heap.size + 2) (by omega) 14 (.slice (some ⟨jH, 0, none⟩) nh nh))
  replace R := (R.setO (j := w.heap.size + 2) (by omega) 14 (.slice (some ⟨jH, 0, none⟩) nh nh))
  replace B := (B.setCell (p := ⟨w.heap.size + 2, 14, none⟩) (by simp; try omega) (.slice (some ⟨jH, 0, none⟩) nh nh))
  replace HA : Hid (RowF ((u12).setCell ⟨w.heap.size + 2, 14, none⟩ (.slice (some ⟨jH, 0, none⟩) nh nh)) jA 118 (na * 4) (na * 4) (MFAsk AM)) := (rowF_set HA.out (by omega) 14 (.slice (some ⟨jH, 0, none⟩) nh nh))
  replace HP : Hid (RowF ((u12).setCell ⟨w.heap.size + 2, 14, none⟩ (.slice (some ⟨jH, 0, none⟩) nh nh)) jP 94 (np * 5) (np * 5) (MFPeer QM)) := (rowF_set HP.out (by omega) 14 (.slice (some ⟨jH, 0, none⟩) nh nh))
  replace HH : Hid (RowF ((u12).setCell ⟨w.heap.size + 2, 14, none⟩ (.slice (some ⟨jH, 0, none⟩) nh nh)) jH 122 (nh * 2) (nh * 2) (MFIval HM)) := (rowF_set HH.out (by omega) 14 (.slice (some ⟨jH, 0, none⟩) nh nh))
  replace hj : w.heap.size + 3 ≤ ((u12).setCell ⟨w.heap.size + 2, 14, none⟩ (.slice (some ⟨jH, 0, none⟩) nh nh)).heap.size := by simpa using hj
  generalize (u12).setCell ⟨w.heap.size + 2, 14, none⟩ (.slice (some ⟨jH, 0, none⟩) nh nh) = w13 at *
  obtain ⟨n0, n1, n2, n3, n4, n5, n6, n7, n8, n9, n10, n11, n12, n13, n14, n15, n16, m0, m1, m2, m3, m4, m5, m6, m7, m8, m9, m10, m11, m12, m13, m14, m15⟩ := id N
  obtain ⟨x0, x1, x2, x3, x4, x5, x6, x7, x8, x9, x10, x11, x12, x13, x14, x15, x16, y0, y1, y2, y3, y4, y5, y6, y7, y8, y9, y10, y11, y12, y13, y14, y15⟩ := id X
  go_upto_region 10 with fail
  clear n0 n1 n2 n3 n4 n5 n6 n7 n8 n9 n10 n11 n12 n13 n14 n15 n16 m0 m1 m2 m3 m4 m5 m6 m7 m8 m9 m10 m11 m12 m13 m14 m15
  clear x0 x1 x2 x3 x4 x5 x6 x7 x8 x9 x10 x11 x12 x13 x14 x15 x16 y0 y1 y2 y3 y4 y5 y6 y7 y8 y9 y10 y11 y12 y13 y14 y15
  replace X := (X.set15 (.int .i64 se))
  replace N := (N.setO (j := w.heap.size + 2) (by omega) 15 (.int .i64 se))
  replace R := (R.setO (j := w.heap.size + 2) (by omega) 15 (.int .i64 se))
  replace B := (B.setCell (p := ⟨w.heap.size + 2, 15, none⟩) (by simp; try omega) (.int .i64 se))
  replace HA : Hid (RowF ((w13).setCell ⟨w.heap.size + 2, 15, none⟩ (.int .i64 se)) jA 118 (na * 4) (na * 4) (MFAsk AM)) := (rowF_set HA.out (by omega) 15 (.int .i64 se))
  replace HP : Hid (RowF ((w13).setCell ⟨w.heap.size + 2, 15, none⟩ (.int .i64 se)) jP 94 (np * 5) (np * 5) (MFPeer QM)) := (rowF_set HP.out (by omega) 15 (.int .i64 se))
  replace HH : Hid (RowF ((w13).setCell ⟨w.heap.size + 2, 15, none⟩ (.int .i64 se)) jH 122 (nh * 2) (nh * 2) (MFIval HM)) := (rowF_set HH.out (by omega) 15 (.int .i64 se))
  replace hj : w.heap.size + 3 ≤ ((w13).setCell ⟨w.heap.size + 2, 15, none⟩ (.int .i64 se)).heap.size := by simpa using hj
  generalize (w13).setCell ⟨w.heap.size + 2, 15, none⟩ (.int .i64 se) = w14 at *
  have R1 := R.put (.int .i64 ni) (.int .i64 mo) (.int .i64 ep) (.int .i64 si) (.bool kn) (.int .i64 lo) (.int .i64 hi) (.int .i64 la) (.int .i64 te) (.int .i64 us) (.slice (some ⟨jA, 0, none⟩) na na) (.slice (some ⟨jP, 0, none⟩) np np) (.bool hs) (.int .i64 ls) (.slice (some ⟨jH, 0, none⟩) nh nh) (.int .i64 se)
  have B1 := Below.put16 B (k := w.heap.size + 1) (Nat.le_succ _) (.int .i64 ni) (.int .i64 mo) (.int .i64 ep) (.int .i64 si) (.bool kn) (.int .i64 lo) (.int .i64 hi) (.int .i64 la) (.int .i64 te) (.int .i64 us) (.slice (some ⟨jA, 0, none⟩) na na) (.slice (some ⟨jP, 0, none⟩) np np) (.bool hs) (.int .i64 ls) (.slice (some ⟨jH, 0, none⟩) nh nh) (.int .i64 se)
  replace HA : Hid (RowF (((((((((((((((((w14).setCell ⟨w.heap.size + 1, 0, none⟩ (.int .i64 ni)).setCell ⟨w.heap.size + 1, 1, none⟩ (.int .i64 mo)).setCell ⟨w.heap.size + 1, 2, none⟩ (.int .i64 ep)).setCell ⟨w.heap.size + 1, 3, none⟩ (.int .i64 si)).setCell ⟨w.heap.size + 1, 4, none⟩ (.bool kn)).setCell ⟨w.heap.size + 1, 5, none⟩ (.int .i64 lo)).setCell ⟨w.heap.size + 1, 6, none⟩ (.int .i64 hi)).setCell ⟨w.heap.size + 1, 7, none⟩ (.int .i64 la)).setCell ⟨w.heap.size + 1, 8, none⟩ (.int .i64 te)).setCell ⟨w.heap.size + 1, 9, none⟩ (.int .i64 us)).setCell ⟨w.heap.size + 1, 10, none⟩ (.slice (some ⟨jA, 0, none⟩) na na)).setCell ⟨w.heap.size + 1, 11, none⟩ (.slice (some ⟨jP, 0, none⟩) np np)).setCell ⟨w.heap.size + 1, 12, none⟩ (.bool hs)).setCell ⟨w.heap.size + 1, 13, none⟩ (.int .i64 ls)).setCell ⟨w.heap.size + 1, 14, none⟩ (.slice (some ⟨jH, 0, none⟩) nh nh)).setCell ⟨w.heap.size + 1, 15, none⟩ (.int .i64 se)) jA 118 (na * 4) (na * 4) (MFAsk AM)) := (rowF_set (rowF_set (rowF_set (rowF_set (rowF_set (rowF_set (rowF_set (rowF_set (rowF_set (rowF_set (rowF_set (rowF_set (rowF_set (rowF_set (rowF_set (rowF_set HA.out (by omega) 0 (.int .i64 ni)) (by omega) 1 (.int .i64 mo)) (by omega) 2 (.int .i64 ep)) (by omega) 3 (.int .i64 si)) (by omega) 4 (.bool kn)) (by omega) 5 (.int .i64 lo)) (by omega) 6 (.int .i64 hi)) (by omega) 7 (.int .i64 la)) (by omega) 8 (.int .i64 te)) (by omega) 9 (.int .i64 us)) (by omega) 10 (.slice (some ⟨jA, 0, none⟩) na na)) (by omega) 11 (.slice (some ⟨jP, 0, none⟩) np np)) (by omega) 12 (.bool hs)) (by omega) 13 (.int .i64 ls)) (by omega) 14 (.slice (some ⟨jH, 0, none⟩) nh nh)) (by omega) 15 (.int .i64 se))
  replace HP : Hid (RowF (((((((((((((((((w14).setCell ⟨w.heap.size + 1, 0, none⟩ (.int .i64 ni)).setCell ⟨w.heap.size + 1, 1, none⟩ (.int .i64 mo)).setCell ⟨w.heap.size + 1, 2, none⟩ (.int .i64 ep)).setCell ⟨w.heap.size + 1, 3, none⟩ (.int .i64 si)).setCell ⟨w.heap.size + 1, 4, none⟩ (.bool kn)).setCell ⟨w.heap.size + 1, 5, none⟩ (.int .i64 lo)).setCell ⟨w.heap.size + 1, 6, none⟩ (.int .i64 hi)).setCell ⟨w.heap.size + 1, 7, none⟩ (.int .i64 la)).setCell ⟨w.heap.size + 1, 8, none⟩ (.int .i64 te)).setCell ⟨w.heap.size + 1, 9, none⟩ (.int .i64 us)).setCell ⟨w.heap.size + 1, 10, none⟩ (.slice (some ⟨jA, 0, none⟩) na na)).setCell ⟨w.heap.size + 1, 11, none⟩ (.slice (some ⟨jP, 0, none⟩) np np)).setCell ⟨w.heap.size + 1, 12, none⟩ (.bool hs)).setCell ⟨w.heap.size + 1, 13, none⟩ (.int .i64 ls)).setCell ⟨w.heap.size + 1, 14, none⟩ (.slice (some ⟨jH, 0, none⟩) nh nh)).setCell ⟨w.heap.size + 1, 15, none⟩ (.int .i64 se)) jP 94 (np * 5) (np * 5) (MFPeer QM)) := (rowF_set (rowF_set (rowF_set (rowF_set (rowF_set (rowF_set (rowF_set (rowF_set (rowF_set (rowF_set (rowF_set (rowF_set (rowF_set (rowF_set (rowF_set (rowF_set HP.out (by omega) 0 (.int .i64 ni)) (by omega) 1 (.int .i64 mo)) (by omega) 2 (.int .i64 ep)) (by omega) 3 (.int .i64 si)) (by omega) 4 (.bool kn)) (by omega) 5 (.int .i64 lo)) (by omega) 6 (.int .i64 hi)) (by omega) 7 (.int .i64 la)) (by omega) 8 (.int .i64 te)) (by omega) 9 (.int .i64 us)) (by omega) 10 (.slice (some ⟨jA, 0, none⟩) na na)) (by omega) 11 (.slice (some ⟨jP, 0, none⟩) np np)) (by omega) 12 (.bool hs)) (by omega) 13 (.int .i64 ls)) (by omega) 14 (.slice (some ⟨jH, 0, none⟩) nh nh)) (by omega) 15 (.int .i64 se))
  replace HH : Hid (RowF (((((((((((((((((w14).setCell ⟨w.heap.size + 1, 0, none⟩ (.int .i64 ni)).setCell ⟨w.heap.size + 1, 1, none⟩ (.int .i64 mo)).setCell ⟨w.heap.size + 1, 2, none⟩ (.int .i64 ep)).setCell ⟨w.heap.size + 1, 3, none⟩ (.int .i64 si)).setCell ⟨w.heap.size + 1, 4, none⟩ (.bool kn)).setCell ⟨w.heap.size + 1, 5, none⟩ (.int .i64 lo)).setCell ⟨w.heap.size + 1, 6, none⟩ (.int .i64 hi)).setCell ⟨w.heap.size + 1, 7, none⟩ (.int .i64 la)).setCell ⟨w.heap.size + 1, 8, none⟩ (.int .i64 te)).setCell ⟨w.heap.size + 1, 9, none⟩ (.int .i64 us)).setCell ⟨w.heap.size + 1, 10, none⟩ (.slice (some ⟨jA, 0, none⟩) na na)).setCell ⟨w.heap.size + 1, 11, none⟩ (.slice (some ⟨jP, 0, none⟩) np np)).setCell ⟨w.heap.size + 1, 12, none⟩ (.bool hs)).setCell ⟨w.heap.size + 1, 13, none⟩ (.int .i64 ls)).setCell ⟨w.heap.size + 1, 14, none⟩ (.slice (some ⟨jH, 0, none⟩) nh nh)).setCell ⟨w.heap.size + 1, 15, none⟩ (.int .i64 se)) jH 122 (nh * 2) (nh * 2) (MFIval HM)) := (rowF_set (rowF_set (rowF_set (rowF_set (rowF_set (rowF_set (rowF_set (rowF_set (rowF_set (rowF_set (rowF_set (rowF_set (rowF_set (rowF_set (rowF_set (rowF_set HH.out (by omega) 0 (.int .i64 ni)) (by omega) 1 (.int .i64 mo)) (by omega) 2 (.int .i64 ep)) (by omega) 3 (.int .i64 si)) (by omega) 4 (.bool kn)) (by omega) 5 (.int .i64 lo)) (by omega) 6 (.int .i64 hi)) (by omega) 7 (.int .i64 la)) (by omega) 8 (.int .i64 te)) (by omega) 9 (.int .i64 us)) (by omega) 10 (.slice (some ⟨jA, 0, none⟩) na na)) (by omega) 11 (.slice (some ⟨jP, 0, none⟩) np np)) (by omega) 12 (.bool hs)) (by omega) 13 (.int .i64 ls)) (by omega) 14 (.slice (some ⟨jH, 0, none⟩) nh nh)) (by omega) 15 (.int .i64 se))
  obtain ⟨x0, x1, x2, x3, x4, x5, x6, x7, x8, x9, x10, x11, x12, x13, x14, x15, x16, y0, y1, y2, y3, y4, y5, y6, y7, y8, y9, y10, y11, y12, y13, y14, y15⟩ := id X
  obtain ⟨p0, p1, p2, p3, p4, p5, p6, p7, p8, p9, p10, p11, p12, p13, p14, p15, p16, q0, q1, q2, q3, q4, q5, q6, q7, q8, q9, q10, q11, q12, q13, q14, q15⟩ := id R
  have hLX := Nx16.load (P := Try.prog) X
  go_wp2_with (rw [hLX])
  clear x0 x1 x2 x3 x4 x5 x6 x7 x8 x9 x10 x11 x12 x13 x14 x15 x16 y0 y1 y2 y3 y4 y5 y6 y7 y8 y9 y10 y11 y12 y13 y14 y15
  clear p0 p1 p2 p3 p4 p5 p6 p7 p8 p9 p10 p11 p12 p13 p14 p15 p16 q0 q1 q2 q3 q4 q5 q6 q7 q8 q9 q10 q11 q12 q13 q14 q15
  clear hLX X R B N hj
  generalize ((((((((((((((((w14).setCell ⟨w.heap.size + 1, 0, none⟩ (.int .i64 ni)).setCell ⟨w.heap.size + 1, 1, none⟩ (.int .i64 mo)).setCell ⟨w.heap.size + 1, 2, none⟩ (.int .i64 ep)).setCell ⟨w.heap.size + 1, 3, none⟩ (.int .i64 si)).setCell ⟨w.heap.size + 1, 4, none⟩ (.bool kn)).setCell ⟨w.heap.size + 1, 5, none⟩ (.int .i64 lo)).setCell ⟨w.heap.size + 1, 6, none⟩ (.int .i64 hi)).setCell ⟨w.heap.size + 1, 7, none⟩ (.int .i64 la)).setCell ⟨w.heap.size + 1, 8, none⟩ (.int .i64 te)).setCell ⟨w.heap.size + 1, 9, none⟩ (.int .i64 us)).setCell ⟨w.heap.size + 1, 10, none⟩ (.slice (some ⟨jA, 0, none⟩) na na)).setCell ⟨w.heap.size + 1, 11, none⟩ (.slice (some ⟨jP, 0, none⟩) np np)).setCell ⟨w.heap.size + 1, 12, none⟩ (.bool hs)).setCell ⟨w.heap.size + 1, 13, none⟩ (.int .i64 ls)).setCell ⟨w.heap.size + 1, 14, none⟩ (.slice (some ⟨jH, 0, none⟩) nh nh)).setCell ⟨w.heap.size + 1, 15, none⟩ (.int .i64 se) = v9 at *
  have hL1 := Nx16.load (P := Try.prog) R1
  exact bodyPost_ret (v := .agg #[.int .i64 ni, .int .i64 mo, .int .i64 ep, .int .i64 si, .bool kn, .int .i64 lo, .int .i64 hi, .int .i64 la, .int .i64 te, .int .i64 us, .slice (some ⟨jA, 0, none⟩) na na, .slice (some ⟨jP, 0, none⟩) np np, .bool hs, .int .i64 ls, .slice (some ⟨jH, 0, none⟩) nh nh, .int .i64 se]) (by simp (maxDischargeDepth := 6) [results, Try.results13, go_sem]; rw [hL1]; rfl) rfl ⟨jA, jP, jH, rfl, by omega, oP, oH, HA.out, HP.out, HH.out, B1⟩
end Go.Proofs.Ytlllbahfjihepaa
namespace Go.Proofs.Ytlllbahfjihepaa
open Go.RowKit
set_option linter.unusedVariables false
set_option maxRecDepth 100000 in
set_option maxHeartbeats 8000000 in
theorem eqNode_same (ni mo ep si : Int) (kn : Bool) (lo hi la te us : Int) (aa : Option Addr) (na ac : Nat) (AM : Nat → KT) (pa : Option Addr) (np pc : Nat) (QM : Nat → PT) (hs : Bool) (ls : Int) (ha : Option Addr) (nh hc : Nat) (HM : Nat → VT) (se : Int) (aa' pa' ha' : Option Addr) (ac' pc' hc' : Nat) (w : World) (hna : na ≤ maxLen) (sA : SrcC w aa (na * 4) (MFAsk AM)) (hnp : np ≤ maxLen) (sP : SrcC w pa (np * 5) (MFPeer QM)) (hnh : nh ≤ maxLen) (sH : SrcC w ha (nh * 2) (MFIval HM)) (sA' : SrcC w aa' (na * 4) (MFAsk AM)) (sP' : SrcC w pa' (np * 5) (MFPeer QM)) (sH' : SrcC w ha' (nh * 2) (MFIval HM)) :
    Calls Try.prog 15 #[.agg #[.int .i64 ni, .int .i64 mo, .int .i64 ep, .int .i64 si, .bool kn, .int .i64 lo, .int .i64 hi, .int .i64 la, .int .i64 te, .int .i64 us, .slice aa na ac, .slice pa np pc, .bool hs, .int .i64 ls, .slice ha nh hc, .int .i64 se], .agg #[.int .i64 ni, .int .i64 mo, .int .i64 ep, .int .i64 si, .bool kn, .int .i64 lo, .int .i64 hi, .int .i64 la, .int .i64 te, .int .i64 us, .slice aa' na ac', .slice pa' np pc', .bool hs, .int .i64 ls, .slice ha' nh hc', .int .i64 se]] w fun e w' => e = .returned (.bool true) ∧ Below w.heap.size w w' := by
  have A0 := Below.nw w (.cells #[.int .i64 ni, .int .i64 mo, .int .i64 ep, .int .i64 si, .bool kn, .int .i64 lo, .int .i64 hi, .int .i64 la, .int .i64 te, .int .i64 us, .slice aa na ac, .slice pa np pc, .bool hs, .int .i64 ls, .slice ha nh hc, .int .i64 se] 68)
  have A1 := Below.nw (w.alloc (.cells #[.int .i64 ni, .int .i64 mo, .int .i64 ep, .int .i64 si, .bool kn, .int .i64 lo, .int .i64 hi, .int .i64 la, .int .i64 te, .int .i64 us, .slice aa na ac, .slice pa np pc, .bool hs, .int .i64 ls, .slice ha nh hc, .int .i64 se] 68)) (.cells #[.int .i64 ni, .int .i64 mo, .int .i64 ep, .int .i64 si, .bool kn, .int .i64 lo, .int .i64 hi, .int .i64 la, .int .i64 te, .int .i64 us, .slice aa' na ac', .slice pa' np pc', .bool hs, .int .i64 ls, .slice ha' nh hc', .int .i64 se] 68)
  have N := (Nx16.new w (.int .i64 ni) (.int .i64 mo) (.int .i64 ep) (.int .i64 si) (.bool kn) (.int .i64 lo) (.int .i64 hi) (.int .i64 la) (.int .i64 te) (.int .i64 us) (.slice aa na ac) (.slice pa np pc) (.bool hs) (.int .i64 ls) (.slice ha nh hc) (.int .i64 se) 68).below A1
  have X := Nx16.new (w.alloc (.cells #[.int .i64 ni, .int .i64 mo, .int .i64 ep, .int .i64 si, .bool kn, .int .i64 lo, .int .i64 hi, .int .i64 la, .int .i64 te, .int .i64 us, .slice aa na ac, .slice pa np pc, .bool hs, .int .i64 ls, .slice ha nh hc, .int .i64 se] 68)) (.int .i64 ni) (.int .i64 mo) (.int .i64 ep) (.int .i64 si) (.bool kn) (.int .i64 lo) (.int .i64 hi) (.int .i64 la) (.int .i64 te) (.int .i64 us) (.slice aa' na ac') (.slice pa' np pc') (.bool hs) (.int .i64 ls) (.slice ha' nh hc') (.int .i64 se) 68
  have B := A0.trans (A1.mono A0.size)
  simp only [World.size_alloc] at X
  clear A0 A1
  have C1 := fun w' => eqLife_same mo ep si w'
  have C2 := fun w' => eqLocal_same kn lo hi la w'
  have C3 := fun (w' : World) (h : Below w.heap.size w w') => eqTable_same te us aa aa' na ac ac' AM w' hna (sA.below h) (sA'.below h)
  have C4 := fun (w' : World) (h : Below w.heap.size w w') => eqPeerS_src pa pa' np pc pc' QM w' hnp (sP.below h) (sP'.below h)
  have C5 := fun w' => eqApp_same hs ls w'
  have C6 := fun (w' : World) (h : Below w.heap.size w w') => eqHeardS_src ha ha' nh hc hc' HM w' hnh (sH.below h) (sH'.below h)
  clear sA sP sH sA' sP' sH' hna hnp hnh
  have e1 : (ni != ni) = false := by simp
  have e2 : (se != se) = false := by simp
  go_enter Try.func15, Try.ntmps15
  go_upto_region 1 with fail
  generalize (w.alloc (.cells #[.int .i64 ni, .int .i64 mo, .int .i64 ep, .int .i64 si, .bool kn, .int .i64 lo, .int .i64 hi, .int .i64 la, .int .i64 te, .int .i64 us, .slice aa na ac, .slice pa np pc, .bool hs, .int .i64 ls, .slice ha nh hc, .int .i64 se] 68)).alloc (.cells #[.int .i64 ni, .int .i64 mo, .int .i64 ep, .int .i64 si, .bool kn, .int .i64 lo, .int .i64 hi, .int .i64 la, .int .i64 te, .int .i64 us, .slice aa' na ac', .slice pa' np pc', .bool hs, .int .i64 ls, .slice ha' nh hc', .int .i64 se] 68) = v at *
  obtain ⟨n0, n1, n2, n3, n4, n5, n6, n7, n8, n9, n10, n11, n12, n13, n14, n15, n16, m0, m1, m2, m3, m4, m5, m6, m7, m8, m9, m10, m11, m12, m13, m14, m15⟩ := id N
  obtain ⟨x0, x1, x2, x3, x4, x5, x6, x7, x8, x9, x10, x11, x12, x13, x14, x15, x16, y0, y1, y2, y3, y4, y5, y6, y7, y8, y9, y10, y11, y12, y13, y14, y15⟩ := id X
  go_wp2_with fail
  refine (C1 _).mono ?_
  clear C1
  rintro e v1 ⟨rfl, hb⟩
  clear n0 n1 n2 n3 n4 n5 n6 n7 n8 n9 n10 n11 n12 n13 n14 n15 n16 m0 m1 m2 m3 m4 m5 m6 m7 m8 m9 m10 m11 m12 m13 m14 m15
  clear x0 x1 x2 x3 x4 x5 x6 x7 x8 x9 x10 x11 x12 x13 x14 x15 x16 y0 y1 y2 y3 y4 y5 y6 y7 y8 y9 y10 y11 y12 y13 y14 y15
  replace B := B.trans (hb.mono B.size)
  replace N := N.below hb
  replace X := X.below hb
  clear hb
  obtain ⟨n0, n1, n2, n3, n4, n5, n6, n7, n8, n9, n10, n11, n12, n13, n14, n15, n16, m0, m1, m2, m3, m4, m5, m6, m7, m8, m9, m10, m11, m12, m13, m14, m15⟩ := id N
  obtain ⟨x0, x1, x2, x3, x4, x5, x6, x7, x8, x9, x10, x11, x12, x13, x14, x15, x16, y0, y1, y2, y3, y4, y5, y6, y7, y8, y9, y10, y11, y12, y13, y14, y15⟩ := id X
  go_wp2_with fail
  refine (C2 _).mono ?_
  clear C2
  rintro e v2 ⟨rfl, hb⟩
  clear n0 n1 n2 n3 n4 n5 n6 n7 n8 n9 n10 n11 n12 n13 n14 n15 n16 m0 m1 m2 m3 m4 m5 m6 m7 m8 m9 m10 m11 m12 m13 m14 m15
  clear x0 x1 x2 x3 x4 x5 x6 x7 x8 x9 x10 x11 x12 x13 x14 x15 x16 y0 y1 y2 y3 y4 y5 y6 y7 y8 y9 y10 y11 y12 y13 y14 y15
  replace B := B.trans (hb.mono B.size)
  replace N := N.below hb
  replace X := X.below hb
  clear hb
  obtain ⟨n0, n1, n2, n3, n4, n5, n6, n7, n8, n9, n10, n11, n12, n13, n14, n15, n16, m0, m1, m2, m3, m4, m5, m6, m7, m8, m9, m10, m11, m12, m13, m14, m15⟩ := id N
  obtain ⟨x0, x1, x2, x3, x4, x5, x6, x7, x8, x9, x10, x11, x12, x13, x14, x15, x16, y0, y1, y2, y3, y4, y5, y6, y7, y8, y9, y10, y11, y12, y13, y14, y15⟩ := id X
  go_wp2_with fail
  refine (C3 _ B).mono ?_
  clear C3
  rintro e v3 ⟨rfl, hb⟩
  clear n0 n1 n2 n3 n4 n5 n6 n7 n8 n9 n10 n11 n12 n13 n14 n15 n16 m0 m1 m2 m3 m4 m5 m6 m7 m8 m9 m10 m11 m12 m13 m14 m15
  clear x0 x1 x2 x3 x4 x5 x6 x7 x8 x9 x10 x11 x12 x13 x14 x15 x16 y0 y1 y2 y3 y4 y5 y6 y7 y8 y9 y10 y11 y12 y13 y14 y15
  replace B := B.trans (hb.mono B.size)
  replace N := N.below hb
  replace X := X.below hb
  clear hb
  obtain ⟨n0, n1, n2, n3, n4, n5, n6, n7, n8, n9, n10, n11, n12, n13, n14, n15, n16, m0, m1, m2, m3, m4, m5, m6, m7, m8, m9, m10, m11, m12, m13, m14, m15⟩ := id N
  obtain ⟨x0, x1, x2, x3, x4, x5, x6, x7, x8, x9, x10, x11, x12, x13, x14, x15, x16, y0, y1, y2, y3, y4, y5, y6, y7, y8, y9, y10, y11, y12, y13, y14, y15⟩ := id X
  go_wp2_with fail
  refine (C4 _ B).mono ?_
  clear C4
  rintro e v4 ⟨rfl, hb⟩
  clear n0 n1 n2 n3 n4 n5 n6 n7 n8 n9 n10 n11 n12 n13 n14 n15 n16 m0 m1 m2 m3 m4 m5 m6 m7 m8 m9 m10 m11 m12 m13 m14 m15
  clear x0 x1 x2 x3 x4 x5 x6 x7 x8 x9 x10 x11 x12 x13 x14 x15 x16 y0 y1 y2 y3 y4 y5 y6 y7 y8 y9 y10 y11 y12 y13 y14 y15
  replace B := B.trans (hb.mono B.size)
  replace N := N.below hb
  replace X := X.below hb
  clear hb
  obtain ⟨n0, n1, n2, n3, n4, n5, n6, n7, n8, n9, n10, n11, n12, n13, n14, n15, n16, m0, m1, m2, m3, m4, m5, m6, m7, m8, m9, m10, m11, m12, m13, m14, m15⟩ := id N
  obtain ⟨x0, x1, x2, x3, x4, x5, x6, x7, x8, x9, x10, x11, x12, x13, x14, x15, x16, y0, y1, y2, y3, y4, y5, y6, y7, y8, y9, y10, y11, y12, y13, y14, y15⟩ := id X
  go_wp2_with fail
  refine (C5 _).mono ?_
  clear C5
  rintro e v5 ⟨rfl, hb⟩
  clear n0 n1 n2 n3 n4 n5 n6 n7 n8 n9 n10 n11 n12 n13 n14 n15 n16 m0 m1 m2 m3 m4 m5 m6 m7 m8 m9 m10 m11 m12 m13 m14 m15
  clear x0 x1 x2 x3 x4 x5 x6 x7 x8 x9 x10 x11 x12 x13 x14 x15 x16 y0 y1 y2 y3 y4 y5 y6 y7 y8 y9 y10 y11 y12 y13 y14 y15
  replace B := B.trans (hb.mono B.size)
  replace N := N.below hb
  replace X := X.below hb
  clear hb
  obtain ⟨n0, n1, n2, n3, n4, n5, n6, n7, n8, n9, n10, n11, n12, n13, n14, n15, n16, m0, m1, m2, m3, m4, m5, m6, m7, m8, m9, m10, m11, m12, m13, m14, m15⟩ := id N
  obtain ⟨x0, x1, x2, x3, x4, x5, x6, x7, x8, x9, x10, x11, x12, x13, x14, x15, x16, y0, y1, y2, y3, y4, y5, y6, y7, y8, y9, y10, y11, y12, y13, y14, y15⟩ := id X
  go_wp2_with fail
  refine (C6 _ B).mono ?_
  clear C6
  rintro e v6 ⟨rfl, hb⟩
  clear n0 n1 n2 n3 n4 n5 n6 n7 n8 n9 n10 n11 n12 n13 n14 n15 n16 m0 m1 m2 m3 m4 m5 m6 m7 m8 m9 m10 m11 m12 m13 m14 m15
  clear x0 x1 x2 x3 x4 x5 x6 x7 x8 x9 x10 x11 x12 x13 x14 x15 x16 y0 y1 y2 y3 y4 y5 y6 y7 y8 y9 y10 y11 y12 y13 y14 y15
  replace B := B.trans (hb.mono B.size)
  replace N := N.below hb
  replace X := X.below hb
  clear hb
  obtain ⟨n0, n1, n2, n3, n4, n5, n6, n7, n8, n9, n10, n11, n12, n13, n14, n15, n16, m0, m1, m2, m3, m4, m5, m6, m7, m8, m9, m10, m11, m12, m13, m14, m15⟩ := id N
  obtain ⟨x0, x1, x2, x3, x4, x5, x6, x7, x8, x9, x10, x11, x12, x13, x14, x15, x16, y0, y1, y2, y3, y4, y5, y6, y7, y8, y9, y10, y11, y12, y13, y14, y15⟩ := id X
  go_wp2_with fail
  clear n0 n1 n2 n3 n4 n5 n6 n7 n8 n9 n10 n11 n12 n13 n14 n15 n16 m0 m1 m2 m3 m4 m5 m6 m7 m8 m9 m10 m11 m12 m13 m14 m15
  clear x0 x1 x2 x3 x4 x5 x6 x7 x8 x9 x10 x11 x12 x13 x14 x15 x16 y0 y1 y2 y3 y4 y5 y6 y7 y8 y9 y10 y11 y12 y13 y14 y15
  go_ret
  exact ⟨rfl, B⟩
end Go.Proofs.Ytlllbahfjihepaa
namespace Go.Proofs.Ytlllbahfjihepaa
open Go.RowKit
set_option linter.unusedVariables false
set_option maxHeartbeats 2000000 in
theorem szTable_at (ep us : Int) (a : Option Addr) (n c : Nat) (Z : Int) (w : World) (hm : n ≤ maxLen) (h0 : 0 ≤ Z) (h1 : Z ≤ 1048576) :
    Calls Try.prog 30 #[.agg #[.int .i64 ep, .int .i64 us, .slice a n c], .int .i64 Z] w fun e w' => ∃ L : Int, e = .returned (.int .i64 L) ∧ (0 ≤ L → n ≤ 1048576 ∧ L ≤ 1048576) ∧ Below w.heap.size w w' := by
  have A0 := Below.nw w (.cells #[.int .i64 ep, .int .i64 us, .slice a n c] 48)
  by_cases h : (n : Int) ≤ Z
  · have hneg : ¬ (Z - (n : Int) < 0) := by omega
    go_enter Try.func30, Try.ntmps30
    go_wp2_with fail
    refine (szAskS_any _ _ _ _ _ hm h0 h1).mono ?_
    rintro e w1 ⟨rfl, rfl⟩
    rw [if_pos h]
    go_wp2_with fail
    go_ret
    exact ⟨_, rfl, fun _ => by omega, A0⟩
  · go_enter Try.func30, Try.ntmps30
    go_wp2_with fail
    refine (szAskS_any _ _ _ _ _ hm h0 h1).mono ?_
    rintro e w1 ⟨rfl, rfl⟩
    rw [if_neg (Int.not_le.2 h)]
    go_wp2_with fail
    go_ret
    exact ⟨_, rfl, fun h => absurd h (by decide), A0⟩
theorem szPeerS_le (a : Option Addr) (n c : Nat) (Z : Int) (w : World) (hm : n ≤ maxLen) (h0 : 0 ≤ Z) (h1 : Z ≤ 1048576) :
    Calls Try.prog 31 #[.slice a n c, .int .i64 Z] w fun e w' => ∃ L : Int, e = .returned (.int .i64 L) ∧ (0 ≤ L → n ≤ 1048576 ∧ L ≤ 1048576) ∧ Below w.heap.size w w' := by
  refine (szPeerS_any a n c Z w hm h0 h1).mono ?_
  rintro e w' ⟨rfl, rfl⟩
  refine ⟨_, rfl, fun h => ?_, Below.refl _ _⟩
  split at h
  · rename_i hq; rw [if_pos hq]; constructor <;> omega
  · omega
set_option maxRecDepth 100000 in
set_option maxHeartbeats 8000000 in
theorem szNode_at (ni mo ep si : Int) (kn : Bool) (lo hi la te us : Int) (aa : Option Addr) (na ac : Nat) (AM : Nat → KT) (pa : Option Addr) (np pc : Nat) (QM : Nat → PT) (hs : Bool) (ls : Int) (ha : Option Addr) (nh hc : Nat) (HM : Nat → VT) (se : Int) (Z : Int) (w : World) (hna : na ≤ maxLen) (hnp : np ≤ maxLen) (hnh : nh ≤ maxLen) (h0 : 0 ≤ Z) (h1 : Z ≤ 1048576) :
    Calls Try.prog 11 #[.agg #[.int .i64 ni, .int .i64 mo, .int .i64 ep, .int .i64 si, .bool kn, .int .i64 lo, .int .i64 hi, .int .i64 la, .int .i64 te, .int .i64 us, .slice aa na ac, .slice pa np pc, .bool hs, .int .i64 ls, .slice ha nh hc, .int .i64 se], .int .i64 Z] w fun e w' => ∃ L : Int, e = .returned (.int .i64 L) ∧ (0 ≤ L → na ≤ 1048576 ∧ np ≤ 1048576 ∧ nh ≤ 1048576 ∧ L ≤ 1048576) ∧ Below w.heap.size w w' := by
  have B := Below.nw w (.cells #[.int .i64 ni, .int .i64 mo, .int .i64 ep, .int .i64 si, .bool kn, .int .i64 lo, .int .i64 hi, .int .i64 la, .int .i64 te, .int .i64 us, .slice aa na ac, .slice pa np pc, .bool hs, .int .i64 ls, .slice ha nh hc, .int .i64 se] 54)
  have N := Nx16.new w (.int .i64 ni) (.int .i64 mo) (.int .i64 ep) (.int .i64 si) (.bool kn) (.int .i64 lo) (.int .i64 hi) (.int .i64 la) (.int .i64 te) (.int .i64 us) (.slice aa na ac) (.slice pa np pc) (.bool hs) (.int .i64 ls) (.slice ha nh hc) (.int .i64 se) 54
  have C1 := fun w' => szTable_at te us aa na ac Z w' hna h0 h1
  have C2 := fun (Z : Int) (h0 : 0 ≤ Z) (h1 : Z ≤ 1048576) w' => szPeerS_le pa np pc Z w' hnp h0 h1
  have C3 := fun (Z : Int) (h0 : 0 ≤ Z) (h1 : Z ≤ 1048576) w' => szHeardS_le ha nh hc Z w' hnh h0 h1
  clear hna hnp hnh h0 h1
  go_enter Try.func11, Try.ntmps11
  go_upto_region 1 with fail
  generalize w.alloc (.cells #[.int .i64 ni, .int .i64 mo, .int .i64 ep, .int .i64 si, .bool kn, .int .i64 lo, .int .i64 hi, .int .i64 la, .int .i64 te, .int .i64 us, .slice aa na ac, .slice pa np pc, .bool hs, .int .i64 ls, .slice ha nh hc, .int .i64 se] 54) = v at *
  obtain ⟨n0, n1, n2, n3, n4, n5, n6, n7, n8, n9, n10, n11, n12, n13, n14, n15, n16, m0, m1, m2, m3, m4, m5, m6, m7, m8, m9, m10, m11, m12, m13, m14, m15⟩ := id N
  go_wp2_with fail
  refine (C1 _).mono ?_
  rintro e v1 ⟨L1, rfl, hL, hb⟩
  clear n0 n1 n2 n3 n4 n5 n6 n7 n8 n9 n10 n11 n12 n13 n14 n15 n16 m0 m1 m2 m3 m4 m5 m6 m7 m8 m9 m10 m11 m12 m13 m14 m15
  replace B := B.trans (hb.mono B.size)
  replace N := N.below hb
  clear hb C1
  by_cases z1 : L1 < 0
  · clear hL
    go_wp2_with fail
    go_ret
    exact ⟨-1, rfl, fun h => absurd h (by decide), B⟩
  have F1 : Hid (na ≤ 1048576 ∧ L1 ≤ 1048576) := hL (by omega)
  clear hL
  obtain ⟨n0, n1, n2, n3, n4, n5, n6, n7, n8, n9, n10, n11, n12, n13, n14, n15, n16, m0, m1, m2, m3, m4, m5, m6, m7, m8, m9, m10, m11, m12, m13, m14, m15⟩ := id N
  go_wp2_with fail
  refine (C2 _ (by omega) F1.out.2 _).mono ?_
  rintro e v2 ⟨L2, rfl, hL, hb⟩
  clear n0 n1 n2 n3 n4 n5 n6 n7 n8 n9 n10 n11 n12 n13 n14 n15 n16 m0 m1 m2 m3 m4 m5 m6 m7 m8 m9 m10 m11 m12 m13 m14 m15
  replace B := B.trans (hb.mono B.size)
  replace N := N.below hb
  clear hb C2
  by_cases z2 : L2 < 0
  · clear hL
    go_wp2_with fail
    go_ret
    exact ⟨-1, rfl, fun h => absurd h (by decide), B⟩
  have F2 : Hid (np ≤ 1048576 ∧ L2 ≤ 1048576) := hL (by omega)
  clear hL
  obtain ⟨n0, n1, n2, n3, n4, n5, n6, n7, n8, n9, n10, n11, n12, n13, n14, n15, n16, m0, m1, m2, m3, m4, m5, m6, m7, m8, m9, m10, m11, m12, m13, m14, m15⟩ := id N
  go_wp2_with fail
  refine (C3 _ (by omega) F2.out.2 _).mono ?_
  rintro e v3 ⟨L3, rfl, hL, hb⟩
  clear n0 n1 n2 n3 n4 n5 n6 n7 n8 n9 n10 n11 n12 n13 n14 n15 n16 m0 m1 m2 m3 m4 m5 m6 m7 m8 m9 m10 m11 m12 m13 m14 m15
  replace B := B.trans (hb.mono B.size)
  replace N := N.below hb
  clear hb C3
  by_cases z3 : L3 < 0
  · clear hL
    go_wp2_with fail
    go_ret
    exact ⟨-1, rfl, fun h => absurd h (by decide), B⟩
  have F3 : Hid (nh ≤ 1048576 ∧ L3 ≤ 1048576) := hL (by omega)
  clear hL
  clear N
  go_wp2_with fail
  go_ret
  exact ⟨L3, rfl, fun _ => ⟨F1.out.1, F2.out.1, F3.out.1, F3.out.2⟩, B⟩
end Go.Proofs.Ytlllbahfjihepaa
namespace Go.Proofs.Ytlllbahfjihepaa
open Go.RowKit
set_option linter.unusedVariables false
theorem RowF.rwo {w : World} {b n sz base : Nat} {T : TypeId} {F : Nat → Value} (h : RowF w b T (n * sz) (n * sz) F) (hn : n ≤ 1048576) (hb : base ≤ b) : Rwo w base w.heap.size T sz (some ⟨b, 0, none⟩) n n F := by
  obtain ⟨g, ⟨c, hc, hs, hv⟩, hg⟩ := h
  have hlt : b < w.heap.size := (Array.getElem?_eq_some_iff.1 hc).1
  refine ⟨⟨by simp, .inr ⟨b, n, c, rfl, hb, hc, Nat.le_refl _, by unfold maxLen; omega, hs, ?_⟩⟩, fun g' e => by cases e; exact hlt⟩
  apply List.ext_getElem?
  intro j
  by_cases hj : j < n * sz
  · rw [List.getElem?_take, if_pos hj]
    have h1 := hv j hj
    have e : c.toList[j]? = c[j]? := by simp
    rw [e, h1, hg j hj]
    simp [hj]
  · rw [List.getElem?_eq_none (by simp; omega), List.getElem?_eq_none (by simp; omega)]
theorem eqNodeX (A A' : Array Value) (x : NdX) (w : World) (h : NdS w A x) (h' : NdS w A' x) :
    Calls Try.prog 15 #[.agg A, .agg A'] w fun e w' => e = .returned (.bool true) ∧ Below w.heap.size w w' := by
  obtain ⟨aa, ac, pa, pc, ha, hc, rfl, hl, h1, h2, h3⟩ := h
  obtain ⟨aa', ac', pa', pc', ha', hc', rfl, hl', h1', h2', h3'⟩ := h'
  exact eqNode_same x.ni x.mo x.ep x.si x.kn x.lo x.hi x.la x.te x.us aa x.na ac x.AM pa x.np pc x.QM x.hs x.ls ha x.nh hc x.HM x.se aa' pa' ha' ac' pc' hc' w hl.1 h1.src hl.2.1 h2.src hl.2.2 h3.src h1'.src h2'.src h3'.src
def okX (x : NdX) : Bool := ndB x.ni x.mo x.ep x.si x.kn x.lo x.hi x.la x.te x.us x.AM x.na x.QM x.np x.hs x.ls x.HM x.nh x.se
theorem specNodeOkX (A : Array Value) (x : NdX) (w : World) (h : NdS w A x) :
    Calls Try.prog 12 #[.agg A] w fun e w' => e = .returned (.bool (okX x)) ∧ Below w.heap.size w w' := by
  obtain ⟨aa, ac, pa, pc, ha, hc, rfl, hl, h1, h2, h3⟩ := h
  exact specNodeOk_any x.ni x.mo x.ep x.si x.kn x.lo x.hi x.la x.te x.us aa x.na ac x.AM pa x.np pc x.QM x.hs x.ls ha x.nh hc x.HM x.se w hl.1 h1.src hl.2.1 h2.src hl.2.2 h3.src
def zX (id mo ep si te se : Int) : NdX := ⟨id, mo, ep, si, false, 0, 0, 0, te, 0, fun _ => (0, 0, 0, 0), 0, fun _ => (0, 0, 0, 0, false), 0, false, 0, fun _ => (0, 0), 0, se⟩
theorem zX_own (id mo ep si te se : Int) (w : World) (l u : Nat) : NdO w l u (ndV (zX id mo ep si te se) none 0 none 0 none 0) (zX id mo ep si te se) :=
  ⟨none, 0, none, 0, none, 0, rfl, ⟨Nat.zero_le _, Nat.zero_le _, Nat.zero_le _⟩, ⟨⟨rfl, .inl ⟨rfl, rfl⟩⟩, fun g e => by cases e⟩, ⟨⟨rfl, .inl ⟨rfl, rfl⟩⟩, fun g e => by cases e⟩, ⟨⟨rfl, .inl ⟨rfl, rfl⟩⟩, fun g e => by cases e⟩⟩
end Go.Proofs.Ytlllbahfjihepaa
namespace Go.Proofs.Ytlllbahfjihepaa
open Go.RowKit
set_option linter.unusedVariables false
structure CfX where
  dn : Int
  dd : Int
  li : Int
  le : Int
  pt : Int
  ag : Int
  ke : Int
  lg : Int
  s : Int
  g : Int
  PM : Nat → SlT
  m : Nat
def cfV (y : CfX) (p : Option Addr) (d : Nat) : Array Value :=
  #[.int .i64 y.dn, .int .i64 y.dd, .int .i64 y.li, .int .i64 y.le, .int .i64 y.pt, .int .i64 y.ag, .int .i64 y.ke, .int .i64 y.lg, .int .i64 y.s, .int .i64 y.g, .slice p y.m d]
def CfS (w : World) (A : Array Value) (y : CfX) : Prop := ∃ p d, A = cfV y p d ∧ y.m ≤ maxLen ∧ RwO w p y.m d 2 (MFSlot y.PM)
theorem CfS.below {w w' : World} {A : Array Value} {y : CfX} (h : CfS w A y) (hb : Below w.heap.size w w') : CfS w' A y := by
  obtain ⟨p, d, e, hl, h1⟩ := h
  exact ⟨p, d, e, hl, h1.below hb⟩
theorem CfS.size {w : World} {A : Array Value} {y : CfX} (h : CfS w A y) : A.size = 11 := by
  obtain ⟨p, d, e, _⟩ := h
  rw [e]; rfl
theorem CfS.one {w : World} {A : Array Value} {y : CfX} (h : CfS w A y) : ∀ u ∈ A.toList, u.oneCell' = true := by
  obtain ⟨p, d, e, _⟩ := h
  rw [e]
  intro u hu
  simp only [cfV, List.mem_cons, List.not_mem_nil, or_false] at hu
  rcases hu with h | h | h | h | h | h | h | h | h | h | h <;> (subst h; rfl)
def CfO (w : World) (l u : Nat) (A : Array Value) (y : CfX) : Prop := ∃ p d, A = cfV y p d ∧ y.m ≤ 1048576 ∧ Rwo w l u 112 2 p y.m d (MFSlot y.PM)
theorem CfO.below {w w' : World} {l u : Nat} {A : Array Value} {y : CfX} (h : CfO w l u A y) (hb : Below w.heap.size w w') : CfO w' l u A y := by
  obtain ⟨p, d, e, hl, h1⟩ := h
  exact ⟨p, d, e, hl, h1.below hb⟩
theorem CfO.btw {w w' : World} {l u l' u' : Nat} {A : Array Value} {y : CfX} (h : CfO w l u A y) (hb : Btw l' u' w w') (ho : u ≤ l' ∨ u' ≤ l) : CfO w' l u A y := by
  obtain ⟨p, d, e, hl, h1⟩ := h
  exact ⟨p, d, e, hl, h1.btw hb ho⟩
theorem CfO.src {w : World} {l u : Nat} {A : Array Value} {y : CfX} (h : CfO w l u A y) : CfS w A y := by
  obtain ⟨p, d, e, hl, h1⟩ := h
  exact ⟨p, d, e, by unfold maxLen; omega, h1.rw⟩
theorem CfO.size {w : World} {l u : Nat} {A : Array Value} {y : CfX} (h : CfO w l u A y) : A.size = 11 := h.src.size
theorem CfO.one {w : World} {l u : Nat} {A : Array Value} {y : CfX} (h : CfO w l u A y) : ∀ v ∈ A.toList, v.oneCell' = true := h.src.one
def cokX (y : CfX) : Bool := cfB y.dn y.dd y.li y.le y.pt y.ag y.ke y.lg y.s y.g y.PM y.m
end Go.Proofs.Ytlllbahfjihepaa
namespace Go.Proofs.Ytlllbahfjihepaa
open Go.RowKit
set_option linter.unusedVariables false
def wfX (x : NdX) : Prop := ∀ i, i < x.na → (Lit.int .i64 (x.AM i).1).wf = true
def NdW (w : World) (A : Array Value) (x : NdX) : Prop := ∃ aa ac pa pc ha hc, A = ndV x aa ac pa pc ha hc ∧ (x.na ≤ maxLen ∧ x.np ≤ maxLen ∧ x.nh ≤ maxLen) ∧ SrcC w aa (x.na * 4) (MFAsk x.AM) ∧ SrcC w pa (x.np * 5) (MFPeer x.QM) ∧ SrcC w ha (x.nh * 2) (MFIval x.HM)
theorem NdS.weak {w : World} {A : Array Value} {x : NdX} (h : NdS w A x) : NdW w A x := by
  obtain ⟨aa, ac, pa, pc, ha, hc, e, hl, h1, h2, h3⟩ := h
  exact ⟨aa, ac, pa, pc, ha, hc, e, hl, h1.src, h2.src, h3.src⟩
theorem NdW.below {w w' : World} {A : Array Value} {x : NdX} (h : NdW w A x) (hb : Below w.heap.size w w') : NdW w' A x := by
  obtain ⟨aa, ac, pa, pc, ha, hc, e, hl, h1, h2, h3⟩ := h
  exact ⟨aa, ac, pa, pc, ha, hc, e, hl, h1.below hb, h2.below hb, h3.below hb⟩
theorem NdW.size {w : World} {A : Array Value} {x : NdX} (h : NdW w A x) : A.size = 16 := by
  obtain ⟨aa, ac, pa, pc, ha, hc, e, _⟩ := h
  rw [e]; rfl
theorem toNodeW (A : Array Value) (x : NdX) (w : World) (h : NdW w A x) (hb : x.na ≤ 1048576 ∧ x.np ≤ 1048576 ∧ x.nh ≤ 1048576) :
    Calls Try.prog 13 #[.agg A] w fun e w' => ∃ R, e = .returned (.agg R) ∧ NdO w' w.heap.size w'.heap.size R x ∧ Below w.heap.size w w' := by
  obtain ⟨aa, ac, pa, pc, ha, hc, rfl, hl, h1, h2, h3⟩ := h
  refine (toNode_any x.ni x.mo x.ep x.si x.kn x.lo x.hi x.la x.te x.us aa x.na ac x.AM pa x.np pc x.QM x.hs x.ls ha x.nh hc x.HM x.se w hb.1 h1 hb.2.1 h2 hb.2.2 h3).mono ?_
  rintro e w' ⟨jA, jP, jH, rfl, q1, q2, q3, r1, r2, r3, hB⟩
  exact ⟨_, rfl, ⟨some ⟨jA, 0, none⟩, x.na, some ⟨jP, 0, none⟩, x.np, some ⟨jH, 0, none⟩, x.nh, rfl, hb, r1.rwo hb.1 q1, r2.rwo hb.2.1 (by omega), r3.rwo hb.2.2 (by omega)⟩, hB⟩
theorem szNodeW (A : Array Value) (x : NdX) (Z : Int) (w : World) (h : NdW w A x) (h0 : 0 ≤ Z) (h1 : Z ≤ 1048576) :
    Calls Try.prog 11 #[.agg A, .int .i64 Z] w fun e w' => ∃ L : Int, e = .returned (.int .i64 L) ∧ (0 ≤ L → (x.na ≤ 1048576 ∧ x.np ≤ 1048576 ∧ x.nh ≤ 1048576) ∧ L ≤ 1048576) ∧ Below w.heap.size w w' := by
  obtain ⟨aa, ac, pa, pc, ha, hc, rfl, hl, r1, r2, r3⟩ := h
  refine (szNode_at x.ni x.mo x.ep x.si x.kn x.lo x.hi x.la x.te x.us aa x.na ac x.AM pa x.np pc x.QM x.hs x.ls ha x.nh hc x.HM x.se Z w hl.1 hl.2.1 hl.2.2 h0 h1).mono ?_
  rintro e w' ⟨L, rfl, hL, hB⟩
  exact ⟨L, rfl, fun h => ⟨⟨(hL h).1, (hL h).2.1, (hL h).2.2.1⟩, (hL h).2.2.2⟩, hB⟩
def CfW (w : World) (A : Array Value) (y : CfX) : Prop := ∃ p d, A = cfV y p d ∧ y.m ≤ maxLen ∧ SrcC w p (y.m * 2) (MFSlot y.PM)
theorem CfS.weak {w : World} {A : Array Value} {y : CfX} (h : CfS w A y) : CfW w A y := by
  obtain ⟨p, d, e, hl, h1⟩ := h
  exact ⟨p, d, e, hl, h1.src⟩
theorem CfW.below {w w' : World} {A : Array Value} {y : CfX} (h : CfW w A y) (hb : Below w.heap.size w w') : CfW w' A y := by
  obtain ⟨p, d, e, hl, h1⟩ := h
  exact ⟨p, d, e, hl, h1.below hb⟩
theorem CfW.size {w : World} {A : Array Value} {y : CfX} (h : CfW w A y) : A.size = 11 := by
  obtain ⟨p, d, e, _⟩ := h
  rw [e]; rfl
end Go.Proofs.Ytlllbahfjihepaa
namespace Go.Proofs.Ytlllbahfjihepaa
open Go.RowKit
set_option linter.unusedVariables false
set_option maxHeartbeats 2000000 in
theorem slotOk_any (o l : Int) (w : World) :
    Calls Try.prog 87 #[.agg #[.int .i64 o, .int .i64 l]] w fun e w' => e = .returned (.bool (slB o l)) ∧ Below w.heap.size w w' := by
  have B := Below.nw w (.cells #[.int .i64 o, .int .i64 l] 112)
  have C1 := fun w' => isNode_any o w'
  cases h1 : nodB o
  · have e0 : slB o l = false := by unfold slB; rw [h1]; rfl
    rw [e0]
    go_enter Try.func87, Try.ntmps87
    go_wp2_with fail
    refine (C1 _).mono ?_
    rintro e w' ⟨rfl, rfl⟩
    rw [h1]
    go_wp2_with fail
    go_ret
    exact ⟨rfl, B⟩
  · have e0 : slB o l = lnB l := by unfold slB; rw [h1]; rfl
    rw [e0]
    clear e0
    by_cases ha : 1 ≤ l
    · by_cases hb : l ≤ 1000000
      · have e0 : lnB l = true := decide_eq_true ⟨ha, hb⟩
        rw [e0]
        clear e0
        go_enter Try.func87, Try.ntmps87
        go_wp2_with fail
        refine (C1 _).mono ?_
        rintro e w' ⟨rfl, rfl⟩
        rw [h1]
        go_wp2_with fail
        go_ret
        exact ⟨rfl, B⟩
      · have e0 : lnB l = false := decide_eq_false (by omega)
        rw [e0]
        clear e0
        go_enter Try.func87, Try.ntmps87
        go_wp2_with fail
        refine (C1 _).mono ?_
        rintro e w' ⟨rfl, rfl⟩
        rw [h1]
        go_wp2_with fail
        go_ret
        exact ⟨ret_bool (decide_eq_false (by omega)), B⟩
    · have e0 : lnB l = false := decide_eq_false (by omega)
      rw [e0]
      clear e0
      go_enter Try.func87, Try.ntmps87
      go_wp2_with fail
      refine (C1 _).mono ?_
      rintro e w' ⟨rfl, rfl⟩
      rw [h1]
      go_wp2_with fail
      go_ret
      exact ⟨rfl, B⟩
set_option maxRecDepth 100000 in
set_option maxHeartbeats 8000000 in
theorem planOk_any (s g : Int) (a : Option Addr) (n c : Nat) (M : Nat → SlT) (w : World) (hm : n ≤ maxLen) (hs : SrcC w a (n * 2) (MFSlot M)) :
    Calls Try.prog 66 #[.agg #[.int .i64 s, .int .i64 g, .slice a n c]] w fun e w' => e = .returned (.bool (plB s g M n)) ∧ Below w.heap.size w w' := by
  unfold maxLen at hm
  have B := Below.nw w (.cells #[.int .i64 s, .int .i64 g, .slice a n c] 34)
  have N := Tx3.new w (.int .i64 s) (.int .i64 g) (.slice a n c) 34
  have C1 := fun w' => isTime_any s w'
  cases h1 : okT s
  · have e0 : plB s g M n = false := by unfold plB; rw [h1]; rfl
    rw [e0]
    clear e0 hs
    go_enter Try.func66, Try.ntmps66; go_upto_region 1 with fail; generalize w.alloc (.cells #[.int .i64 s, .int .i64 g, .slice a n c] 34) = v at *; obtain ⟨n0, n1, n2, n3, n4, n5, n6⟩ := id N; go_wp2_with fail; refine (C1 _).mono ?_; rintro e w' ⟨rfl, rfl⟩; rw [h1]; go_wp2_with fail; go_ret; exact ⟨rfl, B⟩
  by_cases h2 : g < 0
  · have e0 : plB s g M n = false := by unfold plB; rw [h1, show gpB g = false from decide_eq_false (by omega)]; rfl
    rw [e0]
    clear e0 hs
    go_enter Try.func66, Try.ntmps66; go_upto_region 1 with fail; generalize w.alloc (.cells #[.int .i64 s, .int .i64 g, .slice a n c] 34) = v at *; obtain ⟨n0, n1, n2, n3, n4, n5, n6⟩ := id N; go_wp2_with fail; refine (C1 _).mono ?_; rintro e w' ⟨rfl, rfl⟩; rw [h1]; go_wp2_with fail; go_ret; exact ⟨rfl, B⟩
  by_cases h3 : 100000 < g
  · have e0 : plB s g M n = false := by unfold plB; rw [h1, show gpB g = false from decide_eq_false (by omega)]; rfl
    rw [e0]
    clear e0 hs
    go_enter Try.func66, Try.ntmps66; go_upto_region 1 with fail; generalize w.alloc (.cells #[.int .i64 s, .int .i64 g, .slice a n c] 34) = v at *; obtain ⟨n0, n1, n2, n3, n4, n5, n6⟩ := id N; go_wp2_with fail; refine (C1 _).mono ?_; rintro e w' ⟨rfl, rfl⟩; rw [h1]; go_wp2_with fail; go_ret; exact ⟨rfl, B⟩
  have e2 : gpB g = true := decide_eq_true (by omega)
  by_cases h4 : (n : Int) < 1
  · have e0 : plB s g M n = false := by unfold plB; rw [h1, e2, show cnB n = false from decide_eq_false (by omega)]; rfl
    rw [e0]
    clear e0 hs e2
    go_enter Try.func66, Try.ntmps66; go_upto_region 1 with fail; generalize w.alloc (.cells #[.int .i64 s, .int .i64 g, .slice a n c] 34) = v at *; obtain ⟨n0, n1, n2, n3, n4, n5, n6⟩ := id N; go_wp2_with fail; refine (C1 _).mono ?_; rintro e w' ⟨rfl, rfl⟩; rw [h1]; go_wp2_with fail; go_ret; exact ⟨rfl, B⟩
  by_cases h5 : 12 < (n : Int)
  · have e0 : plB s g M n = false := by unfold plB; rw [h1, e2, show cnB n = false from decide_eq_false (by omega)]; rfl
    rw [e0]
    clear e0 hs e2
    go_enter Try.func66, Try.ntmps66; go_upto_region 1 with fail; generalize w.alloc (.cells #[.int .i64 s, .int .i64 g, .slice a n c] 34) = v at *; obtain ⟨n0, n1, n2, n3, n4, n5, n6⟩ := id N; go_wp2_with fail; refine (C1 _).mono ?_; rintro e w' ⟨rfl, rfl⟩; rw [h1]; go_wp2_with fail; go_ret; exact ⟨rfl, B⟩
  have e0 : plB s g M n = slA M n := by unfold plB; rw [h1, e2, show cnB n = true from decide_eq_true (by omega)]; rfl
  rw [e0]
  clear e0 e2
  obtain ⟨b, off, rfl, hf⟩ : ∃ b off, a = some ⟨b, off, none⟩ ∧ Cs w b off (n * 2) (MFSlot M) := by
    rcases hs with q | q
    · exact absurd q (by omega)
    · exact q
  have HF : Hid (Cs w b off (n * 2) (MFSlot M)) := hf
  clear hf hs
  go_enter Try.func66, Try.ntmps66; go_upto_region 1 with fail; generalize w.alloc (.cells #[.int .i64 s, .int .i64 g, .slice (some ⟨b, off, none⟩) n c] 34) = v at *
  obtain ⟨n0, n1, n2, n3, n4, n5, n6⟩ := id N; go_wp2_with fail; refine (C1 _).mono ?_; rintro e w' ⟨rfl, rfl⟩; rw [h1]
  clear C1 h1
  go_wp2_with fail
  clear h2 h3 h4 h5 N
  clear n0 n1 n2 n3 n4 n5 n6
  go_loopw [34] (fun i wr => ∃ (k : Nat), k ≤ n ∧ i = .int .i64 k ∧ slA M k = true ∧ Below w.heap.size w wr) (fun i _ => n - (intOf i).toNat)
  case atStart => exact ⟨0, Nat.zero_le _, rfl, rfl, B⟩
  case round =>
    clear B
    obtain ⟨k, hk, rfl, hA, B⟩ := hrel
    by_cases hlt : k < n
    · obtain ⟨o, l, hM⟩ := tupSlot M k
      obtain ⟨c1, c2⟩ := (HF.out.below B HF.out.1).elSlot hlt hM
      have HA : Hid (slA M (k + 1) = slB o l) := by rw [Hid, slA, hA, hM]; rfl
      have HLT : Hid (k < n) := hlt
      have hli : (k : Int) < (n : Int) := by omega
      have C1 := fun w' => slotOk_any o l w'
      have A1 := Below.nw wr (.cells #[.int .i64 o, .int .i64 l] 112)
      replace B := B.trans (A1.mono B.size)
      clear hM hA HF A1
      go_wp2_with fail
      refine (C1 _).mono ?_
      rintro e v1 ⟨rfl, hb⟩
      replace B := B.trans (hb.mono B.size)
      clear hb
      cases h1 : slB o l
      · have HN : Hid (slA M (k + 1) = false) := by rw [Hid, HA.out, h1]
        clear HA
        go_wp2_with fail
        go_ret
        exact ⟨ret_bool (slA_no HN.out HLT.out).symm, B⟩
      · have HT : Hid (slA M (k + 1) = true) := by rw [Hid, HA.out, h1]
        clear HA
        go_wp2_with fail
        go_roundw
        case rel => exact ⟨k + 1, HLT.out, by go_num, HT.out, B⟩
        case measure => have hlt' := HLT.out; simp [intOf]; omega
    · have hkn : k = n := by omega
      subst hkn
      have hli : ¬ (k : Int) < (k : Int) := by omega
      go_wp2_with fail
      go_ret
      exact ⟨by first | rfl | exact ret_bool hA.symm, B⟩

end Go.Proofs.Ytlllbahfjihepaa
namespace Go.Proofs.Ytlllbahfjihepaa
open Go.RowKit
set_option linter.unusedVariables false
attribute [-go_sem] loadCells storeCells in
set_option maxRecDepth 100000 in
set_option maxHeartbeats 8000000 in
theorem cfgok_any (AC : Array Value) (y : CfX) (w : World) (HC : CfW w AC y) :
    Calls Try.prog 27 #[.agg AC] w fun e w' => e = .returned (.bool (cokX y)) ∧ Below w.heap.size w w' := by
  have CD := fun v => okd_any y.dn y.dd v
  have C4 := fun v => isTime_any y.pt v
  have C5 := fun v => isTime_any y.ag v
  have C6 := fun v => isTime_any y.ke v
  obtain ⟨p, d, rfl, hpm, hr⟩ := HC
  have CP := fun (v : World) (h : Below w.heap.size w v) => planOk_any y.s y.g p y.m d y.PM v hpm (hr.below h)
  clear hr
  have HK : Hid (cokX y = (okD y.dn y.dd && (plB y.s y.g y.PM y.m && ((inI y.li 0 8 && inI y.le 1 8) && ((okT y.pt && (okT y.ag && okT y.ke)) && inI y.lg 1 1000000))))) := by (rw [Hid]; unfold cokX cfB; simp only [Bool.and_assoc])
  generalize cokX y = R at *
  have A0 := Below.nw w (.cells (cfV y p d) 36)
  have C := Bo.new w (cfV y p d) 36
  have B := A0
  clear A0
  go_enter Try.func27, Try.ntmps27
  go_upto_region 1 with fail
  generalize w.alloc (.cells (cfV y p d) 36) = v0 at *
  have c2 : v0.cell? ⟨w.heap.size, 2, none⟩ = some (.int .i64 y.li) := C.cell rfl
  have c3 : v0.cell? ⟨w.heap.size, 3, none⟩ = some (.int .i64 y.le) := C.cell rfl
  go_upto_region 1 with fail
  go_cut [3] (fun s3 wx => s3 = .bool (inI y.li 0 8 && inI y.le 1 8) ∧ v0 = wx)
  case first =>
    go_wp2
    all_goals go_meet
    all_goals exact ⟨congrArg Value.bool (by rw [Bool.eq_iff_iff]; simp [inI]; try omega), rfl⟩
  case rest =>
  obtain ⟨rfl, rfl⟩ := hcut
  clear c2 c3
  obtain ⟨b1, hb1⟩ : ∃ b, (inI y.li 0 8 && inI y.le 1 8) = b := ⟨_, rfl⟩
  rw [hb1]
  have c4 : v0.cell? ⟨w.heap.size, 4, none⟩ = some (.int .i64 y.pt) := C.cell rfl
  have c5 : v0.cell? ⟨w.heap.size, 5, none⟩ = some (.int .i64 y.ag) := C.cell rfl
  have c6 : v0.cell? ⟨w.heap.size, 6, none⟩ = some (.int .i64 y.ke) := C.cell rfl
  go_upto_region 2 with fail
  go_cut [4] (fun s4 wx => s4 = .bool (okT y.pt && (okT y.ag && okT y.ke)) ∧ v0 = wx)
  case first =>
    cases h4 : okT y.pt
    · go_wp2_with fail
      refine (C4 _).mono ?_
      rintro e w' ⟨rfl, rfl⟩
      rw [h4]
      go_wp2_with fail
      go_meet
      exact ⟨congrArg Value.bool (by rw [h4]; rfl), rfl⟩
    cases h5 : okT y.ag
    · go_wp2_with fail
      refine (C4 _).mono ?_
      rintro e w' ⟨rfl, rfl⟩
      rw [h4]
      go_wp2_with fail
      refine (C5 _).mono ?_
      rintro e w' ⟨rfl, rfl⟩
      rw [h5]
      go_wp2_with fail
      go_meet
      exact ⟨congrArg Value.bool (by rw [h4, h5]; rfl), rfl⟩
    go_wp2_with fail
    refine (C4 _).mono ?_
    rintro e w' ⟨rfl, rfl⟩
    rw [h4]
    go_wp2_with fail
    refine (C5 _).mono ?_
    rintro e w' ⟨rfl, rfl⟩
    rw [h5]
    go_wp2_with fail
    refine (C6 _).mono ?_
    rintro e w' ⟨rfl, rfl⟩
    go_wp2_with fail
    go_meet
    exact ⟨congrArg Value.bool (by rw [h4, h5]; rfl), rfl⟩
  case rest =>
  obtain ⟨rfl, rfl⟩ := hcut
  clear c4 c5 c6 C4 C5 C6
  obtain ⟨b2, hb2⟩ : ∃ b, (okT y.pt && (okT y.ag && okT y.ke)) = b := ⟨_, rfl⟩
  rw [hb2]
  replace HK : Hid (R = (okD y.dn y.dd && (plB y.s y.g y.PM y.m && (b1 && (b2 && inI y.lg 1 1000000))))) := by (rw [Hid, HK.out, hb1, hb2])
  clear hb1 hb2
  have hL0 : (loadCells ⟨w.heap.size, 0, none⟩ 2).run Try.prog v0 = .ok #[.int .i64 y.dn, .int .i64 y.dd] v0 := C.loadAt (P := Try.prog) 0 2 (show 0 + 2 ≤ 11 by decide)
  go_wp2_with (rw [hL0])
  refine (CD _).mono ?_
  rintro e v1 ⟨rfl, hb⟩
  clear hL0
  replace B := B.trans (hb.mono B.size)
  replace C := C.below hb
  clear hb CD
  cases h6 : okD y.dn y.dd
  · replace HK : Hid (R = false) := by (rw [Hid, HK.out, h6]; rfl)
    go_wp2_with fail
    go_ret
    exact ⟨ret_bool HK.out.symm, B⟩
  have hL0 : (loadCells ⟨w.heap.size, 8, none⟩ 3).run Try.prog v1 = .ok #[.int .i64 y.s, .int .i64 y.g, .slice p y.m d] v1 := C.loadAt (P := Try.prog) 8 3 (show 8 + 3 ≤ 11 by decide)
  go_wp2_with (rw [hL0])
  refine (CP _ B).mono ?_
  rintro e v2 ⟨rfl, hb⟩
  clear hL0
  replace B := B.trans (hb.mono B.size)
  replace C := C.below hb
  clear hb CP
  cases h7 : plB y.s y.g y.PM y.m
  · replace HK : Hid (R = false) := by (rw [Hid, HK.out, h6, h7]; rfl)
    go_wp2_with fail
    go_ret
    exact ⟨ret_bool HK.out.symm, B⟩
  cases b1
  · replace HK : Hid (R = false) := by (rw [Hid, HK.out, h6, h7]; rfl)
    go_wp2_with fail
    go_ret
    exact ⟨ret_bool HK.out.symm, B⟩
  cases b2
  · replace HK : Hid (R = false) := by (rw [Hid, HK.out, h6, h7]; rfl)
    go_wp2_with fail
    go_ret
    exact ⟨ret_bool HK.out.symm, B⟩
  replace HK : Hid (R = inI y.lg 1 1000000) := by (rw [Hid, HK.out, h6, h7]; rfl)
  have c7 : v2.cell? ⟨w.heap.size, 7, none⟩ = some (.int .i64 y.lg) := C.cell rfl
  go_wp2
  all_goals go_ret
  all_goals exact ⟨ret_bool (by rw [HK.out, Bool.eq_iff_iff]; simp [inI]; try omega), B⟩
attribute [-go_sem] loadCells storeCells in
set_option maxRecDepth 100000 in
set_option maxHeartbeats 8000000 in
theorem implCfgOkW (AC : Array Value) (y : CfX) (w : World) (HC : CfW w AC y) :
    Calls Try.prog 9 #[.agg AC] w fun e w' => e = .returned (.bool (cokX y)) ∧ Below w.heap.size w w' := by
  have hC := HC.size
  have CK := fun (v : World) (h : Below w.heap.size w v) => cfgok_any AC y v (HC.below h)
  clear HC
  have A0 := Below.nw w (.cells AC 36)
  have C := Bo.new w AC 36
  have B := A0
  clear A0
  go_enter Try.func9, Try.ntmps9
  go_upto_region 1 with fail
  generalize w.alloc (.cells AC 36) = v0 at *
  have hL0 := C.load (P := Try.prog) hC
  go_wp2_with (rw [hL0])
  refine (CK v0 B).mono ?_
  rintro e v1 ⟨rfl, hb⟩
  clear hL0
  replace B := B.trans (hb.mono B.size)
  replace C := C.below hb
  clear hb
  go_wp2_with fail
  go_ret
  exact ⟨rfl, B⟩
end Go.Proofs.Ytlllbahfjihepaa
namespace Go.Proofs.Ytlllbahfjihepaa
open Go.RowKit
set_option linter.unusedVariables false
theorem lawCfgOkW (A : Array Value) (y : CfX) (w : World) (HA : CfW w A y) :
    Calls Try.prog 3 #[.agg A] w fun e w' => e = .returned (.bool true) ∧ Below w.heap.size w w' := by
  obtain ⟨p, d, rfl, hm, hs⟩ := HA
  exact lawCfgOk (fun dn dd li le pt ag ke lg s g p m d PM v hpm hp => implCfgOkW (cfV ⟨dn, dd, li, le, pt, ag, ke, lg, s, g, PM, m⟩ p d) ⟨dn, dd, li, le, pt, ag, ke, lg, s, g, PM, m⟩ v ⟨p, d, rfl, hpm, hp⟩) y.dn y.dd y.li y.le y.pt y.ag y.ke y.lg y.s y.g p y.m d y.PM w hm hs
end Go.Proofs.Ytlllbahfjihepaa
