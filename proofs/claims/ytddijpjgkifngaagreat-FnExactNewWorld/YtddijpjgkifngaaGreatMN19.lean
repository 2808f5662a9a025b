/- A node as data, and arrays of cells that read as it. Rows of a lower b -/
import Derived.Test.YtddijpjgkifngaaGreatMN12
namespace Go.Proofs.YtddijpjgkifngaaGreat
open Go.RowKit
set_option linter.unusedVariables false
set_option maxRecDepth 100000
set_option maxHeartbeats 16000000
def Btw (lo hi : Nat) (w w' : World) : Prop := w'.os = w.os ∧ w'.tape = w.tape ∧ w'.output = w.output ∧ w.heap.size ≤ w'.heap.size ∧ ∀ k, k < w.heap.size → (k < lo ∨ hi ≤ k) → w'.heap[k]? = w.heap[k]?
theorem Btw.trans {lo hi : Nat} {u v w : World} (h : Btw lo hi u v) (k : Btw lo hi v w) : Btw lo hi u w :=
 ⟨k.1.trans h.1, k.2.1.trans h.2.1, k.2.2.1.trans h.2.2.1, Nat.le_trans h.2.2.2.1 k.2.2.2.1, fun i hi' ho => (k.2.2.2.2 i (Nat.lt_of_lt_of_le hi' h.2.2.2.1) ho).trans (h.2.2.2.2 i hi' ho)⟩
theorem Btw.ofBelow {lo hi : Nat} {w w' : World} (h : Below w.heap.size w w') : Btw lo hi w w' := ⟨h.os, h.tape, h.output, h.size, fun k hk _ => h.block k hk⟩
theorem Btw.ofGrown {lo hi : Nat} {w w' : World} {o : Option Nat} (h : w.grownBy w' o) (ho : ∀ g, o = some g → lo ≤ g ∧ g < hi) : Btw lo hi w w' :=
 ⟨h.os, h.tape, h.output, h.size, fun k hk hx => h.block k hk (fun e => by have := ho k e.symm; omega)⟩
theorem Btw.belowL {lo hi : Nat} {w w' : World} (h : Btw lo hi w w') (hl : lo ≤ w.heap.size) : Below lo w w' := ⟨h.1, h.2.1, h.2.2.1, h.2.2.2.1, fun k hk => h.2.2.2.2 k (by omega) (.inl hk)⟩
theorem Btw.cell {lo hi : Nat} {w w' : World} (h : Btw lo hi w w') {k i : Nat} (hk : k < w.heap.size) (ho : k < lo ∨ hi ≤ k) : w'.cell? ⟨k, i, none⟩ = w.cell? ⟨k, i, none⟩ := by
 simp only [World.cell?]; rw [h.2.2.2.2 k hk ho]
theorem Btw.frozen {lo hi : Nat} {w w' : World} (h : Btw lo hi w w') {k i : Nat} (hk : k < w.heap.size) (ho : k < lo ∨ hi ≤ k) : w'.frozen? ⟨k, i, none⟩ = w.frozen? ⟨k, i, none⟩ := by
 simp only [World.frozen?]; rw [h.2.2.2.2 k hk ho]
theorem Bo.btw {lo hi : Nat} {w w' : World} {k : Nat} {A : Array Value} (h : Bo w k A) (hb : Btw lo hi w w') (ho : k < lo ∨ hi ≤ k) : Bo w' k A :=
 ⟨Nat.lt_of_lt_of_le h.1 hb.2.2.2.1, fun i u hi => by rw [hb.cell h.1 ho]; exact h.2.1 i u hi, fun i hi => by rw [hb.frozen h.1 ho]; exact h.2.2 i hi⟩
def Rwo (w : World) (lo hi : Nat) (T : TypeId) (sz : Nat) (a : Option Addr) (n c : Nat) (F : Nat → Value) : Prop :=
 w.ownsRow lo T sz (.slice a n c) n ((List.range (n * sz)).map F) ∧ ∀ g, (Value.slice a n c).ownBlock = some g → g < hi
theorem Rwo.lt {w : World} {lo hi : Nat} {T : TypeId} {sz : Nat} {a : Option Addr} {n c : Nat} {F : Nat → Value} (h : Rwo w lo hi T sz a n c F) {g : Nat} (hg : (Value.slice a n c).ownBlock = some g) : lo ≤ g ∧ g < hi ∧ g < w.heap.size :=
 ⟨(World.ownsRow.lt h.1 g hg).1, h.2 g hg, (World.ownsRow.lt h.1 g hg).2⟩
theorem Rwo.same {w w' : World} {lo hi : Nat} {T : TypeId} {sz : Nat} {a : Option Addr} {n c : Nat} {F : Nat → Value} (h : Rwo w lo hi T sz a n c F) (hs : ∀ g, (Value.slice a n c).ownBlock = some g → w'.heap[g]? = w.heap[g]?) : Rwo w' lo hi T sz a n c F := by
 refine ⟨⟨h.1.1, ?_⟩, h.2⟩
 rcases h.1.2 with q | ⟨g, cap, cur, e, h1, h2, h3⟩
 ·exact .inl q
 ·exact .inr ⟨g, cap, cur, e, h1, by rw [hs g (by rw [e]; rfl)]; exact h2, h3⟩
theorem Rwo.below {w w' : World} {lo hi : Nat} {T : TypeId} {sz : Nat} {a : Option Addr} {n c : Nat} {F : Nat → Value} (h : Rwo w lo hi T sz a n c F) (hb : Below w.heap.size w w') : Rwo w' lo hi T sz a n c F :=
 h.same fun g hg => hb.block g (h.lt hg).2.2
theorem Rwo.btw {w w' : World} {lo hi l u : Nat} {T : TypeId} {sz : Nat} {a : Option Addr} {n c : Nat} {F : Nat → Value} (h : Rwo w lo hi T sz a n c F) (hb : Btw l u w w') (ho : hi ≤ l ∨ u ≤ lo) : Rwo w' lo hi T sz a n c F :=
 h.same fun g hg => hb.2.2.2.2 g (h.lt hg).2.2 (by have := h.lt hg; omega)
theorem Rwo.kept {w w' : World} {lo hi : Nat} {o : Option Nat} {T : TypeId} {sz : Nat} {a : Option Addr} {n c : Nat} {F : Nat → Value} (h : Rwo w lo hi T sz a n c F) (hb : w.grownBy w' o) (ho : ∀ g, (Value.slice a n c).ownBlock = some g → some g ≠ o) : Rwo w' lo hi T sz a n c F :=
 h.same fun g hg => hb.block g (h.lt hg).2.2 (ho g hg)
theorem Rwo.ne {w : World} {lo hi lo' hi' : Nat} {T T' : TypeId} {sz sz' : Nat} {a a' : Option Addr} {n c n' c' : Nat} {F F' : Nat → Value} (h : Rwo w lo hi T sz a n c F) (h' : Rwo w lo' hi' T' sz' a' n' c' F') (hT : T ≠ T') : ∀ g, (Value.slice a n c).ownBlock = some g → some g ≠ (Value.slice a' n' c').ownBlock := by
 intro g hg e
 rcases h.1.2 with ⟨q, _⟩ | ⟨g1, cap, cur, e1, _, h2, _⟩
 ·rw [q] at hg; cases hg
 ·rcases h'.1.2 with ⟨q, _⟩ | ⟨g2, cap', cur', e2, _, k2, _⟩
  ·rw [q] at e; cases e
  ·rw [e1] at hg
   rw [e2] at e
   cases hg
   cases e
   rw [h2] at k2
   injection k2 with k2
   injection k2 with _ k2
   exact hT k2
theorem Rwo.rw {w : World} {lo hi : Nat} {T : TypeId} {sz : Nat} {a : Option Addr} {n c : Nat} {F : Nat → Value} (h : Rwo w lo hi T sz a n c F) : RwO w a n c sz F := by
 obtain ⟨a', c', e, _, _, hs⟩ := aS h.1
 injection e with e1 _ e3
 subst e1
 subst e3
 rcases h.1.2 with ⟨q, q0⟩ | ⟨g, cap, cur, q, _⟩
 ·injection q with q1 q2 q3
  exact .inl ⟨q1, q2, q3⟩
 ·injection q with q1 q2 q3
  rcases hs with hs | ⟨b, off, r1, r2⟩
  ·refine .inr ⟨g, 0, q1, ?_⟩
   by_cases hn : n = 0
   ·exact .inl hn
   ·refine .inr ⟨?_, fun j hj => by omega⟩
    have := (h.lt (g := g) (by rw [q1]; rfl)).2.2
    exact this
  ·exact .inr ⟨b, off, r1, .inr r2⟩
structure NdX where
 ni : Int
 mo : Int
 ep : Int
 si : Int
 kn : Bool
 lo : Int
 hi : Int
 la : Int
 te : Int
 us : Int
 AM : Nat → KT
 na : Nat
 QM : Nat → PT
 np : Nat
 hs : Bool
 ls : Int
 HM : Nat → VT
 nh : Nat
 se : Int
def ndV (x : NdX) (aa : Option Addr) (ac : Nat) (pa : Option Addr) (pc : Nat) (ha : Option Addr) (hc : Nat) : Array Value :=
 #[.int .i64 x.ni, .int .i64 x.mo, .int .i64 x.ep, .int .i64 x.si, .bool x.kn, .int .i64 x.lo, .int .i64 x.hi, .int .i64 x.la, .int .i64 x.te, .int .i64 x.us, .slice aa x.na ac, .slice pa x.np pc, .bool x.hs, .int .i64 x.ls, .slice ha x.nh hc, .int .i64 x.se]
def NdS (w : World) (A : Array Value) (x : NdX) : Prop := ∃ aa ac pa pc ha hc, A = ndV x aa ac pa pc ha hc ∧ (x.na ≤ maxLen ∧ x.np ≤ maxLen ∧ x.nh ≤ maxLen) ∧ RwO w aa x.na ac 4 (aA x.AM) ∧ RwO w pa x.np pc 5 (ay x.QM) ∧ RwO w ha x.nh hc 2 (aC x.HM)
theorem NdS.below {w w' : World} {A : Array Value} {x : NdX} (h : NdS w A x) (hb : Below w.heap.size w w') : NdS w' A x := by
 obtain ⟨aa, ac, pa, pc, ha, hc, e, hl, h1, h2, h3⟩ := h
 exact ⟨aa, ac, pa, pc, ha, hc, e, hl, h1.below hb, h2.below hb, h3.below hb⟩
theorem NdS.size {w : World} {A : Array Value} {x : NdX} (h : NdS w A x) : A.size = 16 := by
 obtain ⟨aa, ac, pa, pc, ha, hc, e, _⟩ := h
 rw [e]; rfl
theorem bX (x : NdX) (aa : Option Addr) (ac : Nat) (pa : Option Addr) (pc : Nat) (ha : Option Addr) (hc : Nat) : ∀ u ∈ (ndV x aa ac pa pc ha hc).toList, u.oneCell' = true := by
 intro u hu
 simp only [ndV, List.mem_cons, List.not_mem_nil, or_false] at hu
 rcases hu with h | h | h | h | h | h | h | h | h | h | h | h | h | h | h | h <;> (subst h; rfl)
theorem NdS.one {w : World} {A : Array Value} {x : NdX} (h : NdS w A x) : ∀ u ∈ A.toList, u.oneCell' = true := by
 obtain ⟨aa, ac, pa, pc, ha, hc, e, _⟩ := h
 rw [e]; exact bX x aa ac pa pc ha hc
def NdO (w : World) (l u : Nat) (A : Array Value) (x : NdX) : Prop := ∃ aa ac pa pc ha hc, A = ndV x aa ac pa pc ha hc ∧ (x.na ≤ 1048576 ∧ x.np ≤ 1048576 ∧ x.nh ≤ 1048576) ∧ Rwo w l u 160 4 aa x.na ac (aA x.AM) ∧ Rwo w l u 157 5 pa x.np pc (ay x.QM) ∧ Rwo w l u 162 2 ha x.nh hc (aC x.HM)
theorem NdO.below {w w' : World} {l u : Nat} {A : Array Value} {x : NdX} (h : NdO w l u A x) (hb : Below w.heap.size w w') : NdO w' l u A x := by
 obtain ⟨aa, ac, pa, pc, ha, hc, e, hl, h1, h2, h3⟩ := h
 exact ⟨aa, ac, pa, pc, ha, hc, e, hl, h1.below hb, h2.below hb, h3.below hb⟩
theorem NdO.btw {w w' : World} {l u l' u' : Nat} {A : Array Value} {x : NdX} (h : NdO w l u A x) (hb : Btw l' u' w w') (ho : u ≤ l' ∨ u' ≤ l) : NdO w' l u A x := by
 obtain ⟨aa, ac, pa, pc, ha, hc, e, hl, h1, h2, h3⟩ := h
 exact ⟨aa, ac, pa, pc, ha, hc, e, hl, h1.btw hb ho, h2.btw hb ho, h3.btw hb ho⟩
theorem NdO.src {w : World} {l u : Nat} {A : Array Value} {x : NdX} (h : NdO w l u A x) : NdS w A x := by
 obtain ⟨aa, ac, pa, pc, ha, hc, e, hl, h1, h2, h3⟩ := h
 refine ⟨aa, ac, pa, pc, ha, hc, e, ?_, h1.rw, h2.rw, h3.rw⟩
 unfold maxLen
 omega
theorem NdO.size {w : World} {l u : Nat} {A : Array Value} {x : NdX} (h : NdO w l u A x) : A.size = 16 := h.src.size
theorem NdO.one {w : World} {l u : Nat} {A : Array Value} {x : NdX} (h : NdO w l u A x) : ∀ v ∈ A.toList, v.oneCell' = true := h.src.one
theorem NdO.wide {w : World} {l u l' u' : Nat} {A : Array Value} {x : NdX} (h : NdO w l u A x) (hl : l' ≤ l) (hu : u ≤ u') : NdO w l' u' A x := by
 have W : ∀ {T sz a n c F}, Rwo w l u T sz a n c F → Rwo w l' u' T sz a n c F := by
  intro T sz a n c F hr
  refine ⟨⟨hr.1.1, ?_⟩, fun g hg => Nat.lt_of_lt_of_le (hr.2 g hg) hu⟩
  rcases hr.1.2 with q | ⟨g, cap, cur, e, h1, h2⟩
  ·exact .inl q
  ·exact .inr ⟨g, cap, cur, e, Nat.le_trans hl h1, h2⟩
 obtain ⟨aa, ac, pa, pc, ha, hc, e, hb, h1, h2, h3⟩ := h
 exact ⟨aa, ac, pa, pc, ha, hc, e, hb, W h1, W h2, W h3⟩
def NdM (w : World) (A : Array Value) (x : NdX) (q : Int) : Prop := ∃ aa ac pa pc ha hc, A = ndV x aa ac pa pc ha hc ∧ (x.na ≤ 1048576 ∧ x.np ≤ 1048576 ∧ x.nh ≤ 1048576) ∧ ae w aa (x.na * 4) (mkAsk q) ∧ ae w pa (x.np * 5) (kx (q + (x.na : Int) * 4)) ∧ ae w ha (x.nh * 2) (kw (q + (x.na : Int) * 4 + (x.np : Int) * 5))
theorem NdM.below {w w' : World} {A : Array Value} {x : NdX} {q : Int} (h : NdM w A x q) (hb : Below w.heap.size w w') : NdM w' A x q := by
 obtain ⟨aa, ac, pa, pc, ha, hc, e, hl, h1, h2, h3⟩ := h
 exact ⟨aa, ac, pa, pc, ha, hc, e, hl, h1.below hb, h2.below hb, h3.below hb⟩
theorem af (us : List Value) (w : World) (o k : Nat) : Btw k (k + 1) w (ah w k o us) := by
 have h := gu us w w o (But.refl k w)
 exact ⟨h.1, h.2.1, h.2.2.1, h.2.2.2.1, fun i hi ho => h.2.2.2.2 i hi (by omega)⟩
theorem Rwo.low {w : World} {l u l' : Nat} {T : TypeId} {sz : Nat} {a : Option Addr} {n c : Nat} {F : Nat → Value} (h : Rwo w l u T sz a n c F) (hl : l' ≤ l) : Rwo w l' w.heap.size T sz a n c F := by
 refine ⟨⟨h.1.1, ?_⟩, fun g hg => (h.lt hg).2.2⟩
 rcases h.1.2 with q | ⟨g, cap, cur, e, h1, h2⟩
 ·exact .inl q
 ·exact .inr ⟨g, cap, cur, e, Nat.le_trans hl h1, h2⟩
theorem NdO.low {w : World} {l u l' : Nat} {A : Array Value} {x : NdX} (h : NdO w l u A x) (hl : l' ≤ l) : NdO w l' w.heap.size A x := by
 obtain ⟨aa, ac, pa, pc, ha, hc, e, hb, h1, h2, h3⟩ := h
 exact ⟨aa, ac, pa, pc, ha, hc, e, hb, h1.low hl, h2.low hl, h3.low hl⟩
def nwN (ni : Int) : Int := match aO ni with | true => ni | false => 0
def nwS (ni : Int) : Int := match aO ni with | true => -1 | false => 0
theorem da (ni : Int) (w : World) :
 Calls Tryz.prog 58 #[.int .i64 ni] w fun e w' => e = .returned (.agg #[.int .i64 (nwN ni), .int .i64 0, .int .i64 0, .int .i64 0, .bool false, .int .i64 0, .int .i64 0, .int .i64 0, .int .i64 0, .int .i64 0, .slice none 0 0, .slice none 0 0, .bool false, .int .i64 0, .slice none 0 0, .int .i64 (nwS ni)]) ∧ Below w.heap.size w w' := by
 have C1 := fun w' => an ni w'
 cases h1 : aO ni
 ·have e0 : nwN ni = 0 := by unfold nwN; rw [h1]
  have e1 : nwS ni = 0 := by unfold nwS; rw [h1]
  rw [e0, e1]
  clear e0 e1
  go_enter Tryz.func58, Tryz.ntmps58
  go_wp2_with fail
  refine (C1 _).mono ?_
  rintro e v1 ⟨rfl, rfl⟩
  rw [h1]
  go_wp2_with fail
  have N := ar.new w (.int .i64 0) (.int .i64 0) (.int .i64 0) (.int .i64 0) (.bool false) (.int .i64 0) (.int .i64 0) (.int .i64 0) (.int .i64 0) (.int .i64 0) (.slice none 0 0) (.slice none 0 0) (.bool false) (.int .i64 0) (.slice none 0 0) (.int .i64 0) 98
  have B := Below.nw w (.cells #[.int .i64 0, .int .i64 0, .int .i64 0, .int .i64 0, .bool false, .int .i64 0, .int .i64 0, .int .i64 0, .int .i64 0, .int .i64 0, .slice none 0 0, .slice none 0 0, .bool false, .int .i64 0, .slice none 0 0, .int .i64 0] 98)
  generalize w.alloc (.cells #[.int .i64 0, .int .i64 0, .int .i64 0, .int .i64 0, .bool false, .int .i64 0, .int .i64 0, .int .i64 0, .int .i64 0, .int .i64 0, .slice none 0 0, .slice none 0 0, .bool false, .int .i64 0, .slice none 0 0, .int .i64 0] 98) = v at *
  have n0 : _ ∧ _ := N
  exact bodyPost_ret (v := (.agg #[.int .i64 0, .int .i64 0, .int .i64 0, .int .i64 0, .bool false, .int .i64 0, .int .i64 0, .int .i64 0, .int .i64 0, .int .i64 0, .slice none 0 0, .slice none 0 0, .bool false, .int .i64 0, .slice none 0 0, .int .i64 0])) (by simp (maxDischargeDepth := 6) [results, Tryz.results58, go_sem, *]) rfl ⟨rfl, B⟩
 ·have e0 : nwN ni = ni := by unfold nwN; rw [h1]
  have e1 : nwS ni = -1 := by unfold nwS; rw [h1]
  rw [e0, e1]
  clear e0 e1
  go_enter Tryz.func58, Tryz.ntmps58
  go_wp2_with fail
  refine (C1 _).mono ?_
  rintro e v1 ⟨rfl, rfl⟩
  rw [h1]
  go_wp2_with fail
  have N := ar.new w (.int .i64 ni) (.int .i64 0) (.int .i64 0) (.int .i64 0) (.bool false) (.int .i64 0) (.int .i64 0) (.int .i64 0) (.int .i64 0) (.int .i64 0) (.slice none 0 0) (.slice none 0 0) (.bool false) (.int .i64 0) (.slice none 0 0) (.int .i64 (-1)) 98
  have B := Below.nw w (.cells #[.int .i64 ni, .int .i64 0, .int .i64 0, .int .i64 0, .bool false, .int .i64 0, .int .i64 0, .int .i64 0, .int .i64 0, .int .i64 0, .slice none 0 0, .slice none 0 0, .bool false, .int .i64 0, .slice none 0 0, .int .i64 (-1)] 98)
  generalize w.alloc (.cells #[.int .i64 ni, .int .i64 0, .int .i64 0, .int .i64 0, .bool false, .int .i64 0, .int .i64 0, .int .i64 0, .int .i64 0, .int .i64 0, .slice none 0 0, .slice none 0 0, .bool false, .int .i64 0, .slice none 0 0, .int .i64 (-1)] 98) = v at *
  have n0 : _ ∧ _ := N
  exact bodyPost_ret (v := (.agg #[.int .i64 ni, .int .i64 0, .int .i64 0, .int .i64 0, .bool false, .int .i64 0, .int .i64 0, .int .i64 0, .int .i64 0, .int .i64 0, .slice none 0 0, .slice none 0 0, .bool false, .int .i64 0, .slice none 0 0, .int .i64 (-1)])) (by simp (maxDischargeDepth := 6) [results, Tryz.results58, go_sem, *]) rfl ⟨rfl, B⟩
theorem cR (ni : Int) (w : World) :
 Calls Tryz.prog 61 #[.int .i64 ni] w fun e w' => e = .returned (.agg #[.int .i64 (nwN ni), .int .i64 0, .int .i64 0, .int .i64 0, .bool false, .int .i64 0, .int .i64 0, .int .i64 0, .int .i64 0, .int .i64 0, .slice none 0 0, .slice none 0 0, .bool false, .int .i64 0, .slice none 0 0, .int .i64 (nwS ni)]) ∧ Below w.heap.size w w' := by
 have C1 := fun w' => au ni w'
 cases h1 : aO ni
 ·have e0 : nwN ni = 0 := by unfold nwN; rw [h1]
  have e1 : nwS ni = 0 := by unfold nwS; rw [h1]
  rw [e0, e1]
  clear e0 e1
  go_enter Tryz.func61, Tryz.ntmps61
  go_wp2_with fail
  refine (C1 _).mono ?_
  rintro e v1 ⟨rfl, rfl⟩
  rw [h1]
  go_wp2_with fail
  have N := ar.new w (.int .i64 0) (.int .i64 0) (.int .i64 0) (.int .i64 0) (.bool false) (.int .i64 0) (.int .i64 0) (.int .i64 0) (.int .i64 0) (.int .i64 0) (.slice none 0 0) (.slice none 0 0) (.bool false) (.int .i64 0) (.slice none 0 0) (.int .i64 0) 98
  have B := Below.nw w (.cells #[.int .i64 0, .int .i64 0, .int .i64 0, .int .i64 0, .bool false, .int .i64 0, .int .i64 0, .int .i64 0, .int .i64 0, .int .i64 0, .slice none 0 0, .slice none 0 0, .bool false, .int .i64 0, .slice none 0 0, .int .i64 0] 98)
  generalize w.alloc (.cells #[.int .i64 0, .int .i64 0, .int .i64 0, .int .i64 0, .bool false, .int .i64 0, .int .i64 0, .int .i64 0, .int .i64 0, .int .i64 0, .slice none 0 0, .slice none 0 0, .bool false, .int .i64 0, .slice none 0 0, .int .i64 0] 98) = v at *
  have n0 : _ ∧ _ := N
  exact bodyPost_ret (v := (.agg #[.int .i64 0, .int .i64 0, .int .i64 0, .int .i64 0, .bool false, .int .i64 0, .int .i64 0, .int .i64 0, .int .i64 0, .int .i64 0, .slice none 0 0, .slice none 0 0, .bool false, .int .i64 0, .slice none 0 0, .int .i64 0])) (by simp (maxDischargeDepth := 6) [results, Tryz.results61, go_sem, *]) rfl ⟨rfl, B⟩
 ·have e0 : nwN ni = ni := by unfold nwN; rw [h1]
  have e1 : nwS ni = -1 := by unfold nwS; rw [h1]
  rw [e0, e1]
  clear e0 e1
  go_enter Tryz.func61, Tryz.ntmps61
  go_wp2_with fail
  refine (C1 _).mono ?_
  rintro e v1 ⟨rfl, rfl⟩
  rw [h1]
  go_wp2_with fail
  have N := ar.new w (.int .i64 ni) (.int .i64 0) (.int .i64 0) (.int .i64 0) (.bool false) (.int .i64 0) (.int .i64 0) (.int .i64 0) (.int .i64 0) (.int .i64 0) (.slice none 0 0) (.slice none 0 0) (.bool false) (.int .i64 0) (.slice none 0 0) (.int .i64 (-1)) 98
  have B := Below.nw w (.cells #[.int .i64 ni, .int .i64 0, .int .i64 0, .int .i64 0, .bool false, .int .i64 0, .int .i64 0, .int .i64 0, .int .i64 0, .int .i64 0, .slice none 0 0, .slice none 0 0, .bool false, .int .i64 0, .slice none 0 0, .int .i64 (-1)] 98)
  generalize w.alloc (.cells #[.int .i64 ni, .int .i64 0, .int .i64 0, .int .i64 0, .bool false, .int .i64 0, .int .i64 0, .int .i64 0, .int .i64 0, .int .i64 0, .slice none 0 0, .slice none 0 0, .bool false, .int .i64 0, .slice none 0 0, .int .i64 (-1)] 98) = v at *
  have n0 : _ ∧ _ := N
  exact bodyPost_ret (v := (.agg #[.int .i64 ni, .int .i64 0, .int .i64 0, .int .i64 0, .bool false, .int .i64 0, .int .i64 0, .int .i64 0, .int .i64 0, .int .i64 0, .slice none 0 0, .slice none 0 0, .bool false, .int .i64 0, .slice none 0 0, .int .i64 (-1)])) (by simp (maxDischargeDepth := 6) [results, Tryz.results61, go_sem, *]) rfl ⟨rfl, B⟩
end Go.Proofs.YtddijpjgkifngaaGreat
