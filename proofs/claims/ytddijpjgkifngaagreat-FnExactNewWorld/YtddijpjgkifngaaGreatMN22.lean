/- The contracts of a node, told of arrays of cells. What the laws are ha -/
import Derived.Test.YtddijpjgkifngaaGreatMN19
import Derived.Test.YtddijpjgkifngaaGreatMN21
namespace Go.Proofs.YtddijpjgkifngaaGreat
open Go.RowKit
set_option linter.unusedVariables false
set_option maxRecDepth 100000
set_option maxHeartbeats 16000000
theorem ao.rwo {w : World} {b n sz base : Nat} {T : TypeId} {F : Nat → Value} (h : ao w b T (n * sz) (n * sz) F) (hn : n ≤ 1048576) (hb : base ≤ b) : Rwo w base w.heap.size T sz (some ⟨b, 0, none⟩) n n F := by
 obtain ⟨g, ⟨c, hc, hs, hv⟩, hg⟩ := h
 have hlt : b < w.heap.size := (Array.getElem?_eq_some_iff.1 hc).1
 refine ⟨⟨by simp, .inr ⟨b, n, c, rfl, hb, hc, Nat.le_refl _, by unfold maxLen; omega, hs, ?_⟩⟩, fun g' e => by cases e; exact hlt⟩
 apply List.ext_getElem?
 intro j
 by_cases hj : j < n * sz
 ·rw [List.getElem?_take, if_pos hj]
  have h1 := hv j hj
  have e : c.toList[j]? = c[j]? := by simp
  rw [e, h1, hg j hj]
  simp [hj]
 ·rw [List.getElem?_eq_none (by simp; omega), List.getElem?_eq_none (by simp; omega)]
def okX (x : NdX) : Bool := ndB x.ni x.mo x.ep x.si x.kn x.lo x.hi x.la x.te x.us x.AM x.na x.QM x.np x.hs x.ls x.HM x.nh x.se
def cmX (x : NdX) (ct : Int) : Bool := cmB x.si x.la x.se x.AM x.na x.QM x.np x.HM x.nh ct
theorem bt {w : World} {base : Nat} {T : TypeId} {sz : Nat} {a : Option Addr} {n c : Nat} {F : Nat → Value} (h : w.ownsRow base T sz (.slice a n c) n ((List.range (n * sz)).map F)) : Rwo w base w.heap.size T sz a n c F :=
 ⟨h, fun g hg => (World.ownsRow.lt h g hg).2⟩
def zX (id mo ep si te se : Int) : NdX := ⟨id, mo, ep, si, false, 0, 0, 0, te, 0, fun _ => (0, 0, 0, 0), 0, fun _ => (0, 0, 0, 0, false), 0, false, 0, fun _ => (0, 0), 0, se⟩
theorem kD (id mo ep si te se : Int) (w : World) (l u : Nat) : NdO w l u (ndV (zX id mo ep si te se) none 0 none 0 none 0) (zX id mo ep si te se) :=
 ⟨none, 0, none, 0, none, 0, rfl, ⟨Nat.zero_le _, Nat.zero_le _, Nat.zero_le _⟩, ⟨⟨rfl, .inl ⟨rfl, rfl⟩⟩, fun g e => by cases e⟩, ⟨⟨rfl, .inl ⟨rfl, rfl⟩⟩, fun g e => by cases e⟩, ⟨⟨rfl, .inl ⟨rfl, rfl⟩⟩, fun g e => by cases e⟩⟩
def wfX (x : NdX) : Prop := ∀ i, i < x.na → (Lit.int .i64 (x.AM i).1).wf = true
def NdW (w : World) (A : Array Value) (x : NdX) : Prop := ∃ aa ac pa pc ha hc, A = ndV x aa ac pa pc ha hc ∧ (x.na ≤ maxLen ∧ x.np ≤ maxLen ∧ x.nh ≤ maxLen) ∧ ae w aa (x.na * 4) (aA x.AM) ∧ ae w pa (x.np * 5) (ay x.QM) ∧ ae w ha (x.nh * 2) (aC x.HM)
theorem NdS.weak {w : World} {A : Array Value} {x : NdX} (h : NdS w A x) : NdW w A x := by
 obtain ⟨aa, ac, pa, pc, ha, hc, e, hl, h1, h2, h3⟩ := h
 exact ⟨aa, ac, pa, pc, ha, hc, e, hl, h1.src, h2.src, h3.src⟩
theorem NdW.below {w w' : World} {A : Array Value} {x : NdX} (h : NdW w A x) (hb : Below w.heap.size w w') : NdW w' A x := by
 obtain ⟨aa, ac, pa, pc, ha, hc, e, hl, h1, h2, h3⟩ := h
 exact ⟨aa, ac, pa, pc, ha, hc, e, hl, h1.below hb, h2.below hb, h3.below hb⟩
theorem NdW.size {w : World} {A : Array Value} {x : NdX} (h : NdW w A x) : A.size = 16 := by
 obtain ⟨aa, ac, pa, pc, ha, hc, e, _⟩ := h
 rw [e]; rfl
structure CfX where
 dn : Int
 dd : Int
 li : Int
 le : Int
 pt : Int
 ag : Int
 ke : Int
 lg : Int
 s : Int
 g : Int
 PM : Nat → SlT
 m : Nat
def cfV (y : CfX) (p : Option Addr) (d : Nat) : Array Value :=
 #[.int .i64 y.dn, .int .i64 y.dd, .int .i64 y.li, .int .i64 y.le, .int .i64 y.pt, .int .i64 y.ag, .int .i64 y.ke, .int .i64 y.lg, .int .i64 y.s, .int .i64 y.g, .slice p y.m d]
def CfS (w : World) (A : Array Value) (y : CfX) : Prop := ∃ p d, A = cfV y p d ∧ y.m ≤ maxLen ∧ RwO w p y.m d 2 (ak y.PM)
theorem CfS.below {w w' : World} {A : Array Value} {y : CfX} (h : CfS w A y) (hb : Below w.heap.size w w') : CfS w' A y := by
 obtain ⟨p, d, e, hl, h1⟩ := h
 exact ⟨p, d, e, hl, h1.below hb⟩
theorem CfS.size {w : World} {A : Array Value} {y : CfX} (h : CfS w A y) : A.size = 11 := by
 obtain ⟨p, d, e, _⟩ := h
 rw [e]; rfl
theorem CfS.one {w : World} {A : Array Value} {y : CfX} (h : CfS w A y) : ∀ u ∈ A.toList, u.oneCell' = true := by
 obtain ⟨p, d, e, _⟩ := h
 rw [e]
 intro u hu
 simp only [cfV, List.mem_cons, List.not_mem_nil, or_false] at hu
 rcases hu with h | h | h | h | h | h | h | h | h | h | h <;> (subst h; rfl)
def CfO (w : World) (l u : Nat) (A : Array Value) (y : CfX) : Prop := ∃ p d, A = cfV y p d ∧ y.m ≤ 1048576 ∧ Rwo w l u 173 2 p y.m d (ak y.PM)
theorem CfO.below {w w' : World} {l u : Nat} {A : Array Value} {y : CfX} (h : CfO w l u A y) (hb : Below w.heap.size w w') : CfO w' l u A y := by
 obtain ⟨p, d, e, hl, h1⟩ := h
 exact ⟨p, d, e, hl, h1.below hb⟩
theorem CfO.btw {w w' : World} {l u l' u' : Nat} {A : Array Value} {y : CfX} (h : CfO w l u A y) (hb : Btw l' u' w w') (ho : u ≤ l' ∨ u' ≤ l) : CfO w' l u A y := by
 obtain ⟨p, d, e, hl, h1⟩ := h
 exact ⟨p, d, e, hl, h1.btw hb ho⟩
theorem CfO.src {w : World} {l u : Nat} {A : Array Value} {y : CfX} (h : CfO w l u A y) : CfS w A y := by
 obtain ⟨p, d, e, hl, h1⟩ := h
 exact ⟨p, d, e, by unfold maxLen; omega, h1.rw⟩
theorem CfO.size {w : World} {l u : Nat} {A : Array Value} {y : CfX} (h : CfO w l u A y) : A.size = 11 := h.src.size
theorem CfO.one {w : World} {l u : Nat} {A : Array Value} {y : CfX} (h : CfO w l u A y) : ∀ v ∈ A.toList, v.oneCell' = true := h.src.one
def dp (y : CfX) : Bool := cfB y.dn y.dd y.li y.le y.pt y.ag y.ke y.lg y.s y.g y.PM y.m
def CfW (w : World) (A : Array Value) (y : CfX) : Prop := ∃ p d, A = cfV y p d ∧ y.m ≤ maxLen ∧ ae w p (y.m * 2) (ak y.PM)
theorem CfS.weak {w : World} {A : Array Value} {y : CfX} (h : CfS w A y) : CfW w A y := by
 obtain ⟨p, d, e, hl, h1⟩ := h
 exact ⟨p, d, e, hl, h1.src⟩
theorem CfW.below {w w' : World} {A : Array Value} {y : CfX} (h : CfW w A y) (hb : Below w.heap.size w w') : CfW w' A y := by
 obtain ⟨p, d, e, hl, h1⟩ := h
 exact ⟨p, d, e, hl, h1.below hb⟩
theorem CfW.size {w : World} {A : Array Value} {y : CfX} (h : CfW w A y) : A.size = 11 := by
 obtain ⟨p, d, e, _⟩ := h
 rw [e]; rfl
theorem fA (A : Array Value) (y : CfX) (w : World) (h : CfW w A y) (hb : y.m ≤ 1048576) :
 Calls Tryz.prog 15 #[.agg A] w fun e w' => ∃ R, e = .returned (.agg R) ∧ CfO w' w.heap.size w'.heap.size R y ∧ Below w.heap.size w w' := by
 obtain ⟨p, d, rfl, hl, h1⟩ := h
 refine (ji y.dn y.dd y.li y.le y.pt y.ag y.ke y.lg y.s y.g p y.m d y.PM w hb h1).mono ?_
 rintro e w' ⟨jx, rfl, q1, r1, hB⟩
 exact ⟨_, rfl, ⟨some ⟨jx, 0, none⟩, y.m, rfl, hb, r1.rwo hb q1⟩, hB⟩
theorem kC (A : Array Value) (y : CfX) (Z : Int) (w : World) (h : CfW w A y) (h0 : 0 ≤ Z) (h1 : Z ≤ 1048576) :
 Calls Tryz.prog 13 #[.agg A, .int .i64 Z] w fun e w' => ∃ L : Int, e = .returned (.int .i64 L) ∧ (0 ≤ L → y.m ≤ 1048576 ∧ L ≤ 1048576) ∧ Below w.heap.size w w' := by
 obtain ⟨p, d, rfl, hl, r1⟩ := h
 exact jS y.dn y.dd y.li y.le y.pt y.ag y.ke y.lg y.s y.g p y.m d y.PM Z w hl h0 h1
theorem gK {w w' : World} (h : Below w.heap.size w w') : w.grownBy w' none := ⟨h.os, h.tape, h.output, h.size, fun k hk _ => h.block k hk⟩
theorem ks {w v w' : World} {o : Option Nat} (h : Below w.heap.size w v) (k : v.grownBy w' o) : w.grownBy w' o :=
 ⟨k.os.trans h.os, k.tape.trans h.tape, k.output.trans h.output, Nat.le_trans h.size k.size, fun i hi hne => (k.block i (Nat.lt_of_lt_of_le hi h.size) hne).trans (h.block i hi)⟩
theorem dK (a : Option Addr) (n c base : Nat) (q0 : Int) (xs : List Value) (w : World) (hn : n ≤ 1048576) (hq : 0 < q0) (hq1 : q0 ≤ 1073741824) (h : w.ownsRow base 173 2 (.slice a n c) n xs) :
 Calls Tryz.prog 117 #[.slice a n c, .int .i64 q0] w fun e w' => e = .returned (.int .i64 (q0 + (n : Int) * 2)) ∧ w.grownBy w' (Value.slice a n c).ownBlock := by
 rcases h.2 with ⟨he, h0⟩ | ⟨g, cap, cur, he, _⟩
 ·simp at he
  obtain ⟨rfl, rfl, rfl⟩ := he
  exact (bQ none 0 q0 w).mono fun e w' ⟨h1, h2⟩ => ⟨by rw [h1]; simp, h2 ▸ gK (Below.refl _ _)⟩
 ·simp at he
  obtain ⟨rfl, rfl⟩ := he
  obtain ⟨h1, h2, _, h3⟩ := bD (aQ q0) h
  exact (cd g (c * 2) n c q0 w hn hq hq1 (Nat.mul_le_mul_right _ h2) h3).mono fun e w' ⟨r1, _, r3⟩ => ⟨r1, r3.grK⟩
theorem ic (s g : Int) (a : Option Addr) (n c base : Nat) (q0 : Int) (xs : List Value) (w : World) (hn : n ≤ 1048576) (hq : 0 < q0) (hq1 : q0 ≤ 1073741824) (h : w.ownsRow base 173 2 (.slice a n c) n xs) :
 Calls Tryz.prog 65 #[.agg #[.int .i64 s, .int .i64 g, .slice a n c], .int .i64 q0] w fun e w' => e = .returned (.int .i64 (q0 + (n : Int) * 2)) ∧ w.grownBy w' (Value.slice a n c).ownBlock := by
 have A0 := Below.nw w (.cells #[.int .i64 s, .int .i64 g, .slice a n c] 43)
 have C := dK a n c base q0 xs _ hn hq hq1 (World.ownsRow.alloc h (.cells #[.int .i64 s, .int .i64 g, .slice a n c] 43))
 clear h
 go_enter Tryz.func65, Tryz.ntmps65
 go_wp2_with fail
 refine C.mono ?_
 rintro e w1 ⟨rfl, hg⟩
 have G := ks A0 hg
 go_wp2_with fail
 go_ret
 exact ⟨rfl, G⟩
attribute [-go_sem] loadCells in
theorem jF (A : Array Value) (y : CfX) (q : Int) (l u : Nat) (w : World) (h : CfO w l u A y) (hq : 0 < q) (hq1 : q ≤ 1048576) :
 Calls Tryz.prog 20 #[.agg A, .int .i64 q] w fun e w' => e = .returned (.int .i64 (q + (y.m : Int) * 2)) ∧ y.m ≤ 1048576 ∧ Btw l u w w' := by
 obtain ⟨p, d, rfl, hl, r1⟩ := h
 have B := Below.nw w (.cells (cfV y p d) 45)
 have N := Bo.new w (cfV y p d) 45
 have l1 : ∀ g, (Value.slice p y.m d).ownBlock = some g → l ≤ g ∧ g < u ∧ g < w.heap.size := fun g hg => r1.lt hg
 have p1 := r1.below B
 clear r1
 have T0 : Btw l u w _ := Btw.ofBelow B
 go_enter Tryz.func20, Tryz.ntmps20
 go_upto_region 1 with fail
 generalize w.alloc (.cells (cfV y p d) 45) = v at *
 have hL : (loadCells ⟨w.heap.size, 8, none⟩ 3).run Tryz.prog v = .ok #[.int .i64 y.s, .int .i64 y.g, .slice p y.m d] v := N.loadAt (P := Tryz.prog) 8 3 (show 8 + 3 ≤ 11 by decide)
 go_wp2_with (rw [hL])
 refine (ic y.s y.g p y.m d l q _ v hl hq (by omega) p1.1).mono ?_
 rintro e v1 ⟨rfl, g1⟩
 clear hL p1
 replace T0 := T0.trans (Btw.ofGrown g1 fun g e => ⟨(l1 g e).1, (l1 g e).2.1⟩)
 clear g1 B N
 go_wp2_with fail
 go_ret
 exact ⟨rfl, hl, T0⟩
theorem je {x : NdX} (h : okX x = true) : x.na ≤ 16 ∧ x.np ≤ 8 ∧ x.nh ≤ 16 := by
 unfold okX ndB ndA at h
 simp only [Bool.and_eq_true] at h
 obtain ⟨⟨_, _, _, h1, h2, _, h3, _⟩, _⟩ := h
 refine ⟨?_, ?_, ?_⟩
 ·unfold aw at h1
  simp only [Bool.and_eq_true, decide_eq_true_eq] at h1
  omega
 ·exact jO h2
 ·unfold hrB at h3
  simp only [Bool.and_eq_true, decide_eq_true_eq] at h3
  omega
end Go.Proofs.YtddijpjgkifngaaGreat
