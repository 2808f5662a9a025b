/- The contracts of a node, told of arrays of cells. What the laws are ha -/
import Derived.Lib.SmallJoins
import Derived.Test.YtikbjljkakabdaaGreatMB21
import Derived.Test.YtikbjljkakabdaaGreatMB22
import Derived.Test.YtikbjljkakabdaaGreatMB23
namespace Go.Proofs.YtikbjljkakabdaaGreat
open Go.RowKit
set_option linter.unusedVariables false
set_option maxRecDepth 100000
set_option maxHeartbeats 16000000
theorem ax.rwo {w : World} {b n sz base : Nat} {T : TypeId} {F : Nat → Value} (h : ax w b T (n * sz) (n * sz) F) (hn : n ≤ 1048576) (hb : base ≤ b) : Rwo w base w.heap.size T sz (some ⟨b, 0, none⟩) n n F := by
 obtain ⟨g, ⟨c, hc, hs, hv⟩, hg⟩ := h
 have hlt : b < w.heap.size := (Array.getElem?_eq_some_iff.1 hc).1
 refine ⟨⟨by simp, .inr ⟨b, n, c, rfl, hb, hc, Nat.le_refl _, by unfold maxLen; omega, hs, ?_⟩⟩, fun g' e => by cases e; exact hlt⟩
 apply List.ext_getElem?
 intro j
 by_cases hj : j < n * sz
 ·rw [List.getElem?_take, if_pos hj]
  have h1 := hv j hj
  have e : c.toList[j]? = c[j]? := by simp
  rw [e, h1, hg j hj]
  simp [hj]
 ·rw [List.getElem?_eq_none (by simp; omega), List.getElem?_eq_none (by simp; omega)]
theorem fo (A A' : Array Value) (x : NdX) (w : World) (h : NdS w A x) (h' : NdS w A' x) :
 Calls Tryz.prog 11 #[.agg A, .agg A'] w fun e w' => e = .returned (.bool true) ∧ Below w.heap.size w w' := by
 obtain ⟨aa, ac, pa, pc, ha, hc, rfl, hl, h1, h2, h3⟩ := h
 obtain ⟨aa', ac', pa', pc', ha', hc', rfl, hl', h1', h2', h3'⟩ := h'
 exact kj x.ni x.mo x.ep x.si x.kn x.lo x.hi x.la x.te x.us aa x.na ac x.AM pa x.np pc x.QM x.hs x.ls ha x.nh hc x.HM x.se aa' pa' ha' ac' pc' hc' w hl.1 h1.src hl.2.1 h2.src hl.2.2 h3.src h1'.src h2'.src h3'.src
def okX (x : NdX) : Bool := ndB x.ni x.mo x.ep x.si x.kn x.lo x.hi x.la x.te x.us x.AM x.na x.QM x.np x.hs x.ls x.HM x.nh x.se
def cmX (x : NdX) (ct : Int) : Bool := cmB x.si x.la x.se x.AM x.na x.QM x.np x.HM x.nh ct
theorem bK (A : Array Value) (x : NdX) (ct : Int) (w : World) (h : NdS w A x) :
 Calls Tryz.prog 69 #[.agg A, .int .i64 ct] w fun e w' => e = .returned (.int .i64 (fiI (okX x) (cmX x ct) x.mo)) ∧ Below w.heap.size w w' := by
 obtain ⟨aa, ac, pa, pc, ha, hc, rfl, hl, h1, h2, h3⟩ := h
 exact hI x.ni x.mo x.ep x.si x.kn x.lo x.hi x.la x.te x.us aa x.na ac x.AM pa x.np pc x.QM x.hs x.ls ha x.nh hc x.HM x.se ct w hl.1 h1.src hl.2.1 h2.src hl.2.2 h3.src
theorem dj {w : World} {base : Nat} {T : TypeId} {sz : Nat} {a : Option Addr} {n c : Nat} {F : Nat → Value} (h : w.ownsRow base T sz (.slice a n c) n ((List.range (n * sz)).map F)) : Rwo w base w.heap.size T sz a n c F :=
 ⟨h, fun g hg => (World.ownsRow.lt h g hg).2⟩
theorem pf (A : Array Value) (x : NdX) (w : World) (h : NdS w A x) (hb : x.na ≤ 16 ∧ x.np ≤ 8 ∧ x.nh ≤ 16) :
 Calls Tryz.prog 27 #[.agg A] w fun e w' => ∃ R, e = .returned (.agg R) ∧ NdO w' w.heap.size w'.heap.size R x ∧ Below w.heap.size w w' := by
 obtain ⟨aa, ac, pa, pc, ha, hc, rfl, hl, h1, h2, h3⟩ := h
 refine (ed x.ni x.mo x.ep x.si x.kn x.lo x.hi x.la x.te x.us aa x.na ac x.AM pa x.np pc x.QM x.hs x.ls ha x.nh hc x.HM x.se w hb.1 h1 hb.2.1 h2 hb.2.2 h3).mono ?_
 rintro e w' ⟨a1, c1, a2, c2, a3, c3, rfl, ⟨o1, o2, o3⟩, hB⟩
 exact ⟨_, rfl, ⟨a1, c1, a2, c2, a3, c3, rfl, ⟨by omega, by omega, by omega⟩, dj o1, dj o2, dj o3⟩, hB⟩
def zX (id mo ep si te se : Int) : NdX := ⟨id, mo, ep, si, false, 0, 0, 0, te, 0, fun _ => (0, 0, 0, 0), 0, fun _ => (0, 0, 0, 0, false), 0, false, 0, fun _ => (0, 0), 0, se⟩
theorem qV (id mo ep si te se : Int) (w : World) (l u : Nat) : NdO w l u (ndV (zX id mo ep si te se) none 0 none 0 none 0) (zX id mo ep si te se) :=
 ⟨none, 0, none, 0, none, 0, rfl, ⟨Nat.zero_le _, Nat.zero_le _, Nat.zero_le _⟩, ⟨⟨rfl, .inl ⟨rfl, rfl⟩⟩, fun g e => by cases e⟩, ⟨⟨rfl, .inl ⟨rfl, rfl⟩⟩, fun g e => by cases e⟩, ⟨⟨rfl, .inl ⟨rfl, rfl⟩⟩, fun g e => by cases e⟩⟩
def wfX (x : NdX) : Prop := ∀ i, i < x.na → (Lit.int .i64 (x.AM i).1).wf = true
def NdW (w : World) (A : Array Value) (x : NdX) : Prop := ∃ aa ac pa pc ha hc, A = ndV x aa ac pa pc ha hc ∧ (x.na ≤ maxLen ∧ x.np ≤ maxLen ∧ x.nh ≤ maxLen) ∧ az w aa (x.na * 4) (aA x.AM) ∧ az w pa (x.np * 5) (am x.QM) ∧ az w ha (x.nh * 2) (au x.HM)
theorem NdS.weak {w : World} {A : Array Value} {x : NdX} (h : NdS w A x) : NdW w A x := by
 obtain ⟨aa, ac, pa, pc, ha, hc, e, hl, h1, h2, h3⟩ := h
 exact ⟨aa, ac, pa, pc, ha, hc, e, hl, h1.src, h2.src, h3.src⟩
theorem NdW.below {w w' : World} {A : Array Value} {x : NdX} (h : NdW w A x) (hb : Below w.heap.size w w') : NdW w' A x := by
 obtain ⟨aa, ac, pa, pc, ha, hc, e, hl, h1, h2, h3⟩ := h
 exact ⟨aa, ac, pa, pc, ha, hc, e, hl, h1.below hb, h2.below hb, h3.below hb⟩
theorem NdW.size {w : World} {A : Array Value} {x : NdX} (h : NdW w A x) : A.size = 16 := by
 obtain ⟨aa, ac, pa, pc, ha, hc, e, _⟩ := h
 rw [e]; rfl
theorem rx (A : Array Value) (x : NdX) (w : World) (h : NdW w A x) (hb : x.na ≤ 1048576 ∧ x.np ≤ 1048576 ∧ x.nh ≤ 1048576) :
 Calls Tryz.prog 9 #[.agg A] w fun e w' => ∃ R, e = .returned (.agg R) ∧ NdO w' w.heap.size w'.heap.size R x ∧ Below w.heap.size w w' := by
 obtain ⟨aa, ac, pa, pc, ha, hc, rfl, hl, h1, h2, h3⟩ := h
 refine (nr x.ni x.mo x.ep x.si x.kn x.lo x.hi x.la x.te x.us aa x.na ac x.AM pa x.np pc x.QM x.hs x.ls ha x.nh hc x.HM x.se w hb.1 h1 hb.2.1 h2 hb.2.2 h3).mono ?_
 rintro e w' ⟨jA, jP, jH, rfl, q1, q2, q3, r1, r2, r3, hB⟩
 exact ⟨_, rfl, ⟨some ⟨jA, 0, none⟩, x.na, some ⟨jP, 0, none⟩, x.np, some ⟨jH, 0, none⟩, x.nh, rfl, hb, r1.rwo hb.1 q1, r2.rwo hb.2.1 (by omega), r3.rwo hb.2.2 (by omega)⟩, hB⟩
theorem ru (A : Array Value) (x : NdX) (Z : Int) (w : World) (h : NdW w A x) (h0 : 0 ≤ Z) (h1 : Z ≤ 1048576) :
 Calls Tryz.prog 6 #[.agg A, .int .i64 Z] w fun e w' => ∃ L : Int, e = .returned (.int .i64 L) ∧ (0 ≤ L → (x.na ≤ 1048576 ∧ x.np ≤ 1048576 ∧ x.nh ≤ 1048576) ∧ L ≤ 1048576) ∧ Below w.heap.size w w' := by
 obtain ⟨aa, ac, pa, pc, ha, hc, rfl, hl, r1, r2, r3⟩ := h
 refine (pm x.ni x.mo x.ep x.si x.kn x.lo x.hi x.la x.te x.us aa x.na ac x.AM pa x.np pc x.QM x.hs x.ls ha x.nh hc x.HM x.se Z w hl.1 hl.2.1 hl.2.2 h0 h1).mono ?_
 rintro e w' ⟨L, rfl, hL, hB⟩
 exact ⟨L, rfl, fun h => ⟨⟨(hL h).1, (hL h).2.1, (hL h).2.2.1⟩, (hL h).2.2.2⟩, hB⟩
def CfW (w : World) (A : Array Value) (y : CfX) : Prop := ∃ p d, A = cfV y p d ∧ y.m ≤ maxLen ∧ az w p (y.m * 2) (aH y.PM)
theorem CfS.weak {w : World} {A : Array Value} {y : CfX} (h : CfS w A y) : CfW w A y := by
 obtain ⟨p, d, e, hl, h1⟩ := h
 exact ⟨p, d, e, hl, h1.src⟩
theorem CfW.below {w w' : World} {A : Array Value} {y : CfX} (h : CfW w A y) (hb : Below w.heap.size w w') : CfW w' A y := by
 obtain ⟨p, d, e, hl, h1⟩ := h
 exact ⟨p, d, e, hl, h1.below hb⟩
theorem CfW.size {w : World} {A : Array Value} {y : CfX} (h : CfW w A y) : A.size = 11 := by
 obtain ⟨p, d, e, _⟩ := h
 rw [e]; rfl
theorem sL (A : Array Value) (y : CfX) (w : World) (h : CfW w A y) (hb : y.m ≤ 1048576) :
 Calls Tryz.prog 8 #[.agg A] w fun e w' => ∃ R, e = .returned (.agg R) ∧ CfO w' w.heap.size w'.heap.size R y ∧ Below w.heap.size w w' := by
 obtain ⟨p, d, rfl, hl, h1⟩ := h
 refine (pr y.dn y.dd y.li y.le y.pt y.ag y.ke y.lg y.s y.g p y.m d y.PM w hb h1).mono ?_
 rintro e w' ⟨jx, rfl, q1, r1, hB⟩
 exact ⟨_, rfl, ⟨some ⟨jx, 0, none⟩, y.m, rfl, hb, r1.rwo hb q1⟩, hB⟩
theorem sJ (A : Array Value) (y : CfX) (Z : Int) (w : World) (h : CfW w A y) (h0 : 0 ≤ Z) (h1 : Z ≤ 1048576) :
 Calls Tryz.prog 5 #[.agg A, .int .i64 Z] w fun e w' => ∃ L : Int, e = .returned (.int .i64 L) ∧ (0 ≤ L → y.m ≤ 1048576 ∧ L ≤ 1048576) ∧ Below w.heap.size w w' := by
 obtain ⟨p, d, rfl, hl, r1⟩ := h
 exact qL y.dn y.dd y.li y.le y.pt y.ag y.ke y.lg y.s y.g p y.m d y.PM Z w hl h0 h1
theorem p9 : (Tryz.prog.info? 88).map (fun i => (i.zero, i.size, i.bytes)) = some (some (.agg #[.int .i64 0, .int .i64 0, .int .i64 0, .int .i64 0]), 4, 32) := by kernel_rfl
theorem pD (M : Nat → KT) (n : Nat) : ∀ u ∈ (List.range (n * 4)).map (aA M), u.oneCell' = true := by
 intro u hu
 rw [List.mem_map] at hu
 obtain ⟨j, _, rfl⟩ := hu
 have h : j % 4 = 0 ∨ j % 4 = 1 ∨ j % 4 = 2 ∨ j % 4 = 3 := by omega
 unfold aA
 rcases h with h | h | h | h <;> rw [h] <;> rfl
theorem oG {w : World} {ops : Array Oper} {rest : List Oper} {o : Oper} {a : Act} {Q : Exit → Act → World → Prop} (hgd : o.guard = none) (s x : Operand)
 (ho : o.op = .call { callee := .builtin .append, args := #[s, x], argTypes := #[50, 50] }) (base : Nat) (M : Nat → KT) (v : Value) (hs : a.eval s = v) (hown : w.ownsRow base 88 4 v 0 ([] : List Value))
 (A : Option Addr) (n c : Nat) (hx : a.eval x = .slice A n c) (hA : (A = none ∧ n = 0 ∧ c = 0) ∨ ∃ b off, A = some ⟨b, off, none⟩ ∧ (n = 0 ∨ Cs w b off (n * 4) (aA M))) (hL : n ≤ 4096) (hbase : base ≤ w.heap.size)
 (h : ∀ v' w', w'.ownsRow base 88 4 v' n ((List.range (n * 4)).map (aA M)) → w.grownBy w' v.ownBlock → wpList Tryz.prog ops Q rest (a.put o.dst v') w') :
 wpList Tryz.prog ops Q (o :: rest) a w := by
 obtain ⟨i0, hi, hz0, hz1, hz2⟩ := info_parts p9
 rcases hA with ⟨rfl, rfl, rfl⟩ | ⟨b, off, rfl, hC⟩
 ·have hr := run_append_owned_none (P := Tryz.prog) (w := w) base 50 o.type 88 i0 4 Tryz.underlying50 hi v 0 ([] : List Value) hown
  refine wpList_plain hgd fun _ hK => ?_
  unfold Oper.wp execOp
  simp only [ho, resolve, invoke, builtin, Sem.run_bind, Sem.run_pure, Result.andThen_ok, List.map_toArray, List.map_cons, List.map_nil, hs, hx, hr]
  exact hK _ _ (h v w hown ⟨rfl, rfl, rfl, Nat.le_refl _, fun _ _ _ => rfl⟩)
 ·have hcells : ∀ j u, ((List.range (n * 4)).map (aA M))[j]? = some u → w.cell? ((⟨b, off, none⟩ : Addr).add j) = some u := by
   intro j u hu
   rw [List.getElem?_map] at hu
   by_cases hj : j < n * 4
   ·rw [List.getElem?_range hj] at hu
    simp at hu
    subst hu
    rcases hC with rfl | hC
    ·omega
    ·rw [dN]; exact hC.2 j hj
   ·rw [List.getElem?_eq_none (by rw [List.length_range]; omega)] at hu
    simp at hu
  refine bc hgd s x 50 ho base 88 i0 (.agg #[.int .i64 0, .int .i64 0, .int .i64 0, .int .i64 0]) 4 32 Tryz.underlying50 hi hz0 hz1 hz2 rfl (by decide) v 0 ([] : List Value) hs hown ⟨b, off, none⟩ n c ((List.range (n * 4)).map (aA M)) hx (by simp) hcells (pD M n) (by unfold maxLen; omega) (by omega) hbase ?_
  intro v' w' h1 h2 _
  refine h v' w' ?_ h2
  rw [Nat.zero_add] at h1
  exact h1
theorem oT (w : World) : (w.alloc (.cells #[] 88)).ownsRow w.heap.size 88 4 (.slice (some ⟨w.heap.size, 0, none⟩) 0 0) 0 ([] : List Value) := World.ownsRow_made w #[] 0 (Nat.le_refl _) (by simp [maxLen]) (by simp)
theorem oF (a : Option Addr) (n c : Nat) (M : Nat → KT) (w : World) (hL : n ≤ 4096) (ha : RwO w a n c 4 (aA M)) :
 Calls Tryz.prog 130 #[.slice a n c] w fun e w' => ∃ a' c', e = .returned (.slice a' n c') ∧ Rwo w' w.heap.size w'.heap.size 88 4 a' n c' (aA M) ∧ Below w.heap.size w w' := by
 have qT : ∀ (w : World) (a : Option Addr) (n c n' c' : Nat), (binOp .eql 50 (.slice a n c) (.slice none n' c')).run Tryz.prog w = .ok (.bool a.isNone) w := fun w a n c n' c' => Lib.run_eql_slice_nil w _ _ a n c n' c' Tryz.underlying50
 rcases ha with ⟨rfl, rfl, rfl⟩ | ⟨b, off, rfl, hC⟩
 ·go_enter Tryz.func130, Tryz.ntmps130
  go_wp2_with fail
  go_ret
  exact ⟨none, 0, rfl, ⟨⟨rfl, .inl ⟨rfl, rfl⟩⟩, fun g e => by cases e⟩, Below.refl _ _⟩
 ·have A := Below.nw w (.cells #[] 88)
  have OW := oT w
  have hsz : w.heap.size ≤ (w.alloc (.cells #[] 88)).heap.size := A.size
  have HA : Hid ((some (⟨b, off, none⟩ : Addr) = none ∧ n = 0 ∧ c = 0) ∨ ∃ b' off', some (⟨b, off, none⟩ : Addr) = some ⟨b', off', none⟩ ∧ (n = 0 ∨ Cs (w.alloc (.cells #[] 88)) b' off' (n * 4) (aA M))) := .inr ⟨b, off, rfl, hC.imp id fun h => h.below A h.1⟩
  clear hC
  go_enter Tryz.func130, Tryz.ntmps130
  go_wp2_with (at_builtin; refine oG rfl _ _ rfl w.heap.size M _ rfl OW _ n c rfl HA.out hL hsz ?_; intro v' w9 O9 hg9; (have B9 := A.trans (aJ OW hg9 hsz)))
  go_ret
  obtain ⟨a', c', rfl, _, _, _⟩ := aT O9
  exact ⟨a', c', rfl, dj O9, B9⟩
theorem l8 (a : Option Addr) (n c : Nat) (M : Nat → PT) (w : World) (hL : n ≤ 4096) (ha : RwO w a n c 5 (am M)) :
 Calls Tryz.prog 131 #[.slice a n c] w fun e w' => ∃ a' c', e = .returned (.slice a' n c') ∧ Rwo w' w.heap.size w'.heap.size 154 5 a' n c' (am M) ∧ Below w.heap.size w w' := by
 have qT : ∀ (w : World) (a : Option Addr) (n c n' c' : Nat), (binOp .eql 53 (.slice a n c) (.slice none n' c')).run Tryz.prog w = .ok (.bool a.isNone) w := fun w a n c n' c' => Lib.run_eql_slice_nil w _ _ a n c n' c' Tryz.underlying53
 rcases ha with ⟨rfl, rfl, rfl⟩ | ⟨b, off, rfl, hC⟩
 ·go_enter Tryz.func131, Tryz.ntmps131
  go_wp2_with fail
  go_ret
  exact ⟨none, 0, rfl, ⟨⟨rfl, .inl ⟨rfl, rfl⟩⟩, fun g e => by cases e⟩, Below.refl _ _⟩
 ·have A := Below.nw w (.cells #[] 154)
  have OW := fX w
  have hsz : w.heap.size ≤ (w.alloc (.cells #[] 154)).heap.size := A.size
  have HA : Hid ((some (⟨b, off, none⟩ : Addr) = none ∧ n = 0 ∧ c = 0) ∨ ∃ b' off', some (⟨b, off, none⟩ : Addr) = some ⟨b', off', none⟩ ∧ (n = 0 ∨ Cs (w.alloc (.cells #[] 154)) b' off' (n * 5) (am M))) := .inr ⟨b, off, rfl, hC.imp id fun h => h.below A h.1⟩
  clear hC
  go_enter Tryz.func131, Tryz.ntmps131
  go_wp2_with (at_builtin; refine fK rfl _ _ rfl w.heap.size M _ rfl OW _ n c rfl HA.out hL hsz ?_; intro v' w9 O9 hg9; (have B9 := A.trans (aJ OW hg9 hsz)))
  go_ret
  obtain ⟨a', c', rfl, _, _, _⟩ := aT O9
  exact ⟨a', c', rfl, dj O9, B9⟩
theorem j5 (a : Option Addr) (n c : Nat) (M : Nat → VT) (w : World) (hL : n ≤ 4096) (ha : RwO w a n c 2 (au M)) :
 Calls Tryz.prog 132 #[.slice a n c] w fun e w' => ∃ a' c', e = .returned (.slice a' n c') ∧ Rwo w' w.heap.size w'.heap.size 159 2 a' n c' (au M) ∧ Below w.heap.size w w' := by
 have qT : ∀ (w : World) (a : Option Addr) (n c n' c' : Nat), (binOp .eql 55 (.slice a n c) (.slice none n' c')).run Tryz.prog w = .ok (.bool a.isNone) w := fun w a n c n' c' => Lib.run_eql_slice_nil w _ _ a n c n' c' Tryz.underlying55
 rcases ha with ⟨rfl, rfl, rfl⟩ | ⟨b, off, rfl, hC⟩
 ·go_enter Tryz.func132, Tryz.ntmps132
  go_wp2_with fail
  go_ret
  exact ⟨none, 0, rfl, ⟨⟨rfl, .inl ⟨rfl, rfl⟩⟩, fun g e => by cases e⟩, Below.refl _ _⟩
 ·have A := Below.nw w (.cells #[] 159)
  have OW := fW w
  have hsz : w.heap.size ≤ (w.alloc (.cells #[] 159)).heap.size := A.size
  have HA : Hid ((some (⟨b, off, none⟩ : Addr) = none ∧ n = 0 ∧ c = 0) ∨ ∃ b' off', some (⟨b, off, none⟩ : Addr) = some ⟨b', off', none⟩ ∧ (n = 0 ∨ Cs (w.alloc (.cells #[] 159)) b' off' (n * 2) (au M))) := .inr ⟨b, off, rfl, hC.imp id fun h => h.below A h.1⟩
  clear hC
  go_enter Tryz.func132, Tryz.ntmps132
  go_wp2_with (at_builtin; refine eQ rfl _ _ rfl w.heap.size M _ rfl OW _ n c rfl HA.out hL hsz ?_; intro v' w9 O9 hg9; (have B9 := A.trans (aJ OW hg9 hsz)))
  go_ret
  obtain ⟨a', c', rfl, _, _, _⟩ := aT O9
  exact ⟨a', c', rfl, dj O9, B9⟩
attribute [-go_sem] loadCells storeCells in
theorem fl (AN : Array Value) (x : NdX) (w : World) (HN : NdS w AN x) (hb : x.na ≤ 16 ∧ x.np ≤ 8 ∧ x.nh ≤ 16) :
 Calls Tryz.prog 87 #[.agg AN] w fun e w' => ∃ R, e = .returned (.agg R) ∧ NdO w' w.heap.size w'.heap.size R x ∧ Below w.heap.size w w' := by
 obtain ⟨aa, ac, pa, pc, ha, hc, rfl, -, h1, h2, h3⟩ := HN
 have CA := fun (v : World) (h : Below w.heap.size w v) => oF aa x.na ac x.AM v (by omega) (h1.below h)
 have CP := fun (v : World) (h : Below w.heap.size w v) => l8 pa x.np pc x.QM v (by omega) (h2.below h)
 have CH := fun (v : World) (h : Below w.heap.size w v) => j5 ha x.nh hc x.HM v (by omega) (h3.below h)
 clear h1 h2 h3
 obtain ⟨hb1, hb2, hb3⟩ := hb
 have A0 := Below.nw w (.cells (ndV x aa ac pa pc ha hc) 57)
 have A1 := Below.nw (w.alloc (.cells (ndV x aa ac pa pc ha hc) 57)) (.cells #[.int .i64 0, .int .i64 0, .int .i64 0, .int .i64 0, .bool false, .int .i64 0, .int .i64 0, .int .i64 0, .int .i64 0, .int .i64 0, .slice none 0 0, .slice none 0 0, .bool false, .int .i64 0, .slice none 0 0, .int .i64 0] 57)
 have N := (Bo.new w (ndV x aa ac pa pc ha hc) 57).below A1
 have R := Bo.new (w.alloc (.cells (ndV x aa ac pa pc ha hc) 57)) #[.int .i64 0, .int .i64 0, .int .i64 0, .int .i64 0, .bool false, .int .i64 0, .int .i64 0, .int .i64 0, .int .i64 0, .int .i64 0, .slice none 0 0, .slice none 0 0, .bool false, .int .i64 0, .slice none 0 0, .int .i64 0] 57
 have B := A0
 replace B := B.trans (A1.mono B.size)
 simp only [World.size_alloc] at R
 clear A0 A1
 go_enter Tryz.func87, Tryz.ntmps87
 go_upto_region 1 with fail
 generalize ((w.alloc (.cells (ndV x aa ac pa pc ha hc) 57))).alloc (.cells #[.int .i64 0, .int .i64 0, .int .i64 0, .int .i64 0, .bool false, .int .i64 0, .int .i64 0, .int .i64 0, .int .i64 0, .int .i64 0, .slice none 0 0, .slice none 0 0, .bool false, .int .i64 0, .slice none 0 0, .int .i64 0] 57) = v0 at *
 have hL0 : v0.cell? ⟨w.heap.size, 10, none⟩ = some (.slice aa x.na ac) := N.cell rfl
 go_wp2_with fail
 refine (CA v0 B).mono ?_
 rintro e v1 ⟨a1, c1, rfl, P1, hb⟩
 clear hL0
 have q1N : w.heap.size < v0.heap.size := N.1
 have q1R : w.heap.size + 1 < v0.heap.size := R.1
 have q1 : w.heap.size ≤ v0.heap.size := B.size
 have zv1 : v0.heap.size ≤ v1.heap.size := hb.size
 replace B := B.trans (hb.mono B.size)
 replace N := N.below hb
 replace R := R.below hb
 clear hb
 have hst := Bo.store (P := Tryz.prog) (b := 10) [.slice a1 x.na c1] 10 0 N rfl (show 10 + 1 ≤ 16 by decide) (List.forall_mem_cons.2 ⟨rfl, fun _ h => nomatch h⟩)
 have hb : Btw (w.heap.size) (w.heap.size + 1) v1 (aF v1 (w.heap.size) 10 [.slice a1 x.na c1]) := ay [.slice a1 x.na c1] v1 10 (w.heap.size)
 have B1 := an (k := w.heap.size) [.slice a1 x.na c1] w v1 10 B (by omega)
 have N1 : Bo (aF v1 (w.heap.size) 10 [.slice a1 x.na c1]) (w.heap.size) ((ndV x a1 c1 pa pc ha hc)) := Bo.put [.slice a1 x.na c1] 10 N
 go_upto_region 2 with (rw [hst])
 clear hst  N B
 replace R := R.btw hb (by omega)
 replace P1 := P1.btw hb (by omega)
 have zv2 := hb.2.2.2.1
 clear hb
 generalize aF v1 (w.heap.size) 10 [.slice a1 x.na c1] = v2 at *
 have B := B1
 have N := N1
 clear B1 N1
 have hL0 : v2.cell? ⟨w.heap.size, 11, none⟩ = some (.slice pa x.np pc) := N.cell rfl
 go_wp2_with fail
 refine (CP v2 B).mono ?_
 rintro e v3 ⟨a2, c2, rfl, P2, hb⟩
 clear hL0
 have q2N : w.heap.size < v2.heap.size := N.1
 have q2R : w.heap.size + 1 < v2.heap.size := R.1
 have q2 : w.heap.size ≤ v2.heap.size := B.size
 have zv3 : v2.heap.size ≤ v3.heap.size := hb.size
 replace B := B.trans (hb.mono B.size)
 replace N := N.below hb
 replace R := R.below hb
 replace P1 := P1.below hb
 clear hb
 have hst := Bo.store (P := Tryz.prog) (b := 11) [.slice a2 x.np c2] 11 0 N rfl (show 11 + 1 ≤ 16 by decide) (List.forall_mem_cons.2 ⟨rfl, fun _ h => nomatch h⟩)
 have hb : Btw (w.heap.size) (w.heap.size + 1) v3 (aF v3 (w.heap.size) 11 [.slice a2 x.np c2]) := ay [.slice a2 x.np c2] v3 11 (w.heap.size)
 have B1 := an (k := w.heap.size) [.slice a2 x.np c2] w v3 11 B (by omega)
 have N1 : Bo (aF v3 (w.heap.size) 11 [.slice a2 x.np c2]) (w.heap.size) ((ndV x a1 c1 a2 c2 ha hc)) := Bo.put [.slice a2 x.np c2] 11 N
 go_upto_region 3 with (rw [hst])
 clear hst  N B
 replace R := R.btw hb (by omega)
 replace P1 := P1.btw hb (by omega)
 replace P2 := P2.btw hb (by omega)
 have zv4 := hb.2.2.2.1
 clear hb
 generalize aF v3 (w.heap.size) 11 [.slice a2 x.np c2] = v4 at *
 have B := B1
 have N := N1
 clear B1 N1
 have hL0 : v4.cell? ⟨w.heap.size, 14, none⟩ = some (.slice ha x.nh hc) := N.cell rfl
 go_wp2_with fail
 refine (CH v4 B).mono ?_
 rintro e v5 ⟨a3, c3, rfl, P3, hb⟩
 clear hL0
 have q3N : w.heap.size < v4.heap.size := N.1
 have q3R : w.heap.size + 1 < v4.heap.size := R.1
 have q3 : w.heap.size ≤ v4.heap.size := B.size
 have zv5 : v4.heap.size ≤ v5.heap.size := hb.size
 replace B := B.trans (hb.mono B.size)
 replace N := N.below hb
 replace R := R.below hb
 replace P1 := P1.below hb
 replace P2 := P2.below hb
 clear hb
 have hst := Bo.store (P := Tryz.prog) (b := 14) [.slice a3 x.nh c3] 14 0 N rfl (show 14 + 1 ≤ 16 by decide) (List.forall_mem_cons.2 ⟨rfl, fun _ h => nomatch h⟩)
 have hb : Btw (w.heap.size) (w.heap.size + 1) v5 (aF v5 (w.heap.size) 14 [.slice a3 x.nh c3]) := ay [.slice a3 x.nh c3] v5 14 (w.heap.size)
 have B1 := an (k := w.heap.size) [.slice a3 x.nh c3] w v5 14 B (by omega)
 have N1 : Bo (aF v5 (w.heap.size) 14 [.slice a3 x.nh c3]) (w.heap.size) ((ndV x a1 c1 a2 c2 a3 c3)) := Bo.put [.slice a3 x.nh c3] 14 N
 go_upto_region 4 with (rw [hst])
 clear hst  N B
 replace R := R.btw hb (by omega)
 replace P1 := P1.btw hb (by omega)
 replace P2 := P2.btw hb (by omega)
 replace P3 := P3.btw hb (by omega)
 have zv6 := hb.2.2.2.1
 clear hb
 generalize aF v5 (w.heap.size) 14 [.slice a3 x.nh c3] = v6 at *
 have B := B1
 have N := N1
 clear B1 N1
 have hU : (ndV x a1 c1 a2 c2 a3 c3).size = 16 := rfl
 have hUl : 0 + (ndV x a1 c1 a2 c2 a3 c3).toList.length ≤ 16 := by simp [hU]
 have hL0 := N.load (P := Tryz.prog) (show ((ndV x a1 c1 a2 c2 a3 c3) : Array Value).size = 16 from rfl)
 have hst := Bo.store (P := Tryz.prog) (b := 0) ((ndV x a1 c1 a2 c2 a3 c3).toList) 0 0 R rfl hUl (de _ _ _ _ _ _ _)
 have hb : Btw (w.heap.size + 1) (w.heap.size + 1 + 1) v6 _ := ay ((ndV x a1 c1 a2 c2 a3 c3).toList) v6 0 (w.heap.size + 1)
 have B1 := an (k := w.heap.size + 1) ((ndV x a1 c1 a2 c2 a3 c3).toList) w v6 0 B (by omega)
 have N1 := R.putW (U := (ndV x a1 c1 a2 c2 a3 c3)) hU
 go_wp2_with (first | rw [hL0] | rw [hst])
 clear hst hL0 R B
 replace N := N.btw hb (by omega)
 replace P1 := P1.btw hb (by omega)
 replace P2 := P2.btw hb (by omega)
 replace P3 := P3.btw hb (by omega)
 have zv7 := hb.2.2.2.1
 clear hb
 generalize aF v6 (w.heap.size + 1) 0 ((ndV x a1 c1 a2 c2 a3 c3).toList) = v7 at *
 have B := B1
 have R := N1
 clear B1 N1
 have hL0 := R.load (P := Tryz.prog) hU
 exact bodyPost_ret (v := .agg (ndV x a1 c1 a2 c2 a3 c3)) (by simp [results, Tryz.results87, go_sem]; rw [hL0]; rfl) rfl ⟨_, rfl, ⟨a1, c1, a2, c2, a3, c3, rfl, ⟨by omega, by omega, by omega⟩, P1.low (by omega), P2.low (by omega), P3.low (by omega)⟩, B⟩
theorem mR (o l : Int) (w : World) :
 Calls Tryz.prog 167 #[.agg #[.int .i64 o, .int .i64 l]] w fun e w' => e = .returned (.bool (slB o l)) ∧ Below w.heap.size w w' := by
 have B := Below.nw w (.cells #[.int .i64 o, .int .i64 l] 195)
 have C1 := fun w' => bj o w'
 cases h1 : bX o
 ·have e0 : slB o l = false := by unfold slB; rw [h1]; rfl
  rw [e0]
  go_enter Tryz.func167, Tryz.ntmps167
  go_wp2_with fail
  refine (C1 _).mono ?_
  rintro e w' ⟨rfl, rfl⟩
  rw [h1]
  go_wp2_with fail
  go_ret
  exact ⟨rfl, B⟩
 ·have e0 : slB o l = lnB l := by unfold slB; rw [h1]; rfl
  rw [e0]
  clear e0
  by_cases ha : 1 ≤ l
  ·by_cases hb : l ≤ 1000000
   ·have e0 : lnB l = true := decide_eq_true ⟨ha, hb⟩
    rw [e0]
    clear e0
    go_enter Tryz.func167, Tryz.ntmps167
    go_wp2_with fail
    refine (C1 _).mono ?_
    rintro e w' ⟨rfl, rfl⟩
    rw [h1]
    go_wp2_with fail
    go_ret
    exact ⟨rfl, B⟩
   ·have e0 : lnB l = false := decide_eq_false (by omega)
    rw [e0]
    clear e0
    go_enter Tryz.func167, Tryz.ntmps167
    go_wp2_with fail
    refine (C1 _).mono ?_
    rintro e w' ⟨rfl, rfl⟩
    rw [h1]
    go_wp2_with fail
    go_ret
    exact ⟨ab (decide_eq_false (by omega)), B⟩
  ·have e0 : lnB l = false := decide_eq_false (by omega)
   rw [e0]
   clear e0
   go_enter Tryz.func167, Tryz.ntmps167
   go_wp2_with fail
   refine (C1 _).mono ?_
   rintro e w' ⟨rfl, rfl⟩
   rw [h1]
   go_wp2_with fail
   go_ret
   exact ⟨rfl, B⟩
theorem mI (s g : Int) (a : Option Addr) (n c : Nat) (M : Nat → SlT) (w : World) (hm : n ≤ maxLen) (hs : az w a (n * 2) (aH M)) :
 Calls Tryz.prog 129 #[.agg #[.int .i64 s, .int .i64 g, .slice a n c]] w fun e w' => e = .returned (.bool (plB s g M n)) ∧ Below w.heap.size w w' := by
 unfold maxLen at hm
 have B := Below.nw w (.cells #[.int .i64 s, .int .i64 g, .slice a n c] 64)
 have N := Tx3.new w (.int .i64 s) (.int .i64 g) (.slice a n c) 64
 have C1 := fun w' => aD s w'
 cases h1 : okT s
 ·have e0 : plB s g M n = false := by unfold plB; rw [h1]; rfl
  rw [e0]
  clear e0 hs
  go_enter Tryz.func129, Tryz.ntmps129; go_upto_region 1 with fail; generalize w.alloc (.cells #[.int .i64 s, .int .i64 g, .slice a n c] 64) = v at *; have n0 : _ ∧ _ := N; go_wp2_with fail; refine (C1 _).mono ?_; rintro e w' ⟨rfl, rfl⟩; rw [h1]; go_wp2_with fail; go_ret; exact ⟨rfl, B⟩
 by_cases h2 : g < 0
 ·have e0 : plB s g M n = false := by unfold plB; rw [h1, show gpB g = false from decide_eq_false (by omega)]; rfl
  rw [e0]
  clear e0 hs
  go_enter Tryz.func129, Tryz.ntmps129; go_upto_region 1 with fail; generalize w.alloc (.cells #[.int .i64 s, .int .i64 g, .slice a n c] 64) = v at *; have n0 : _ ∧ _ := N; go_wp2_with fail; refine (C1 _).mono ?_; rintro e w' ⟨rfl, rfl⟩; rw [h1]; go_wp2_with fail; go_ret; exact ⟨rfl, B⟩
 by_cases h3 : 100000 < g
 ·have e0 : plB s g M n = false := by unfold plB; rw [h1, show gpB g = false from decide_eq_false (by omega)]; rfl
  rw [e0]
  clear e0 hs
  go_enter Tryz.func129, Tryz.ntmps129; go_upto_region 1 with fail; generalize w.alloc (.cells #[.int .i64 s, .int .i64 g, .slice a n c] 64) = v at *; have n0 : _ ∧ _ := N; go_wp2_with fail; refine (C1 _).mono ?_; rintro e w' ⟨rfl, rfl⟩; rw [h1]; go_wp2_with fail; go_ret; exact ⟨rfl, B⟩
 have e2 : gpB g = true := decide_eq_true (by omega)
 by_cases h4 : (n : Int) < 1
 ·have e0 : plB s g M n = false := by unfold plB; rw [h1, e2, show cnB n = false from decide_eq_false (by omega)]; rfl
  rw [e0]
  clear e0 hs e2
  go_enter Tryz.func129, Tryz.ntmps129; go_upto_region 1 with fail; generalize w.alloc (.cells #[.int .i64 s, .int .i64 g, .slice a n c] 64) = v at *; have n0 : _ ∧ _ := N; go_wp2_with fail; refine (C1 _).mono ?_; rintro e w' ⟨rfl, rfl⟩; rw [h1]; go_wp2_with fail; go_ret; exact ⟨rfl, B⟩
 by_cases h5 : 12 < (n : Int)
 ·have e0 : plB s g M n = false := by unfold plB; rw [h1, e2, show cnB n = false from decide_eq_false (by omega)]; rfl
  rw [e0]
  clear e0 hs e2
  go_enter Tryz.func129, Tryz.ntmps129; go_upto_region 1 with fail; generalize w.alloc (.cells #[.int .i64 s, .int .i64 g, .slice a n c] 64) = v at *; have n0 : _ ∧ _ := N; go_wp2_with fail; refine (C1 _).mono ?_; rintro e w' ⟨rfl, rfl⟩; rw [h1]; go_wp2_with fail; go_ret; exact ⟨rfl, B⟩
 have e0 : plB s g M n = slA M n := by unfold plB; rw [h1, e2, show cnB n = true from decide_eq_true (by omega)]; rfl
 rw [e0]
 clear e0 e2
 obtain ⟨b, off, rfl, hf⟩ : ∃ b off, a = some ⟨b, off, none⟩ ∧ Cs w b off (n * 2) (aH M) := by
  rcases hs with q | q
  ·exact absurd q (by omega)
  ·exact q
 have HF : Hid (Cs w b off (n * 2) (aH M)) := hf
 clear hf hs
 go_enter Tryz.func129, Tryz.ntmps129; go_upto_region 1 with fail; generalize w.alloc (.cells #[.int .i64 s, .int .i64 g, .slice (some ⟨b, off, none⟩) n c] 64) = v at *
 have n0 : _ ∧ _ := N; go_wp2_with fail; refine (C1 _).mono ?_; rintro e w' ⟨rfl, rfl⟩; rw [h1]
 clear C1 h1
 go_wp2_with fail
 clear h2 h3 h4 h5 N
 clear n0
 go_loopw [34] (fun i wr => ∃ (k : Nat), k ≤ n ∧ i = .int .i64 k ∧ slA M k = true ∧ Below w.heap.size w wr) (fun i _ => n - (intOf i).toNat)
 case atStart => exact ⟨0, Nat.zero_le _, rfl, rfl, B⟩
 case round =>
  clear B
  obtain ⟨k, hk, rfl, hA, B⟩ := hrel
  by_cases hlt : k < n
  ·obtain ⟨o, l, hM⟩ := fC M k
   obtain ⟨c1, c2⟩ := (HF.out.below B HF.out.1).elSlot hlt hM
   have HA : Hid (slA M (k + 1) = slB o l) := by rw [Hid, slA, hA, hM]; rfl
   have HLT : Hid (k < n) := hlt
   have hli : (k : Int) < (n : Int) := by omega
   have C1 := fun w' => mR o l w'
   have A1 := Below.nw wr (.cells #[.int .i64 o, .int .i64 l] 195)
   replace B := B.trans (A1.mono B.size)
   clear hM hA HF A1
   go_wp2_with fail
   refine (C1 _).mono ?_
   rintro e v1 ⟨rfl, hb⟩
   replace B := B.trans (hb.mono B.size)
   clear hb
   cases h1 : slB o l
   ·have HN : Hid (slA M (k + 1) = false) := by rw [Hid, HA.out, h1]
    clear HA
    go_wp2_with fail
    go_ret
    exact ⟨ab (mQ HN.out HLT.out).symm, B⟩
   ·have HT : Hid (slA M (k + 1) = true) := by rw [Hid, HA.out, h1]
    clear HA
    go_wp2_with fail
    go_roundw
    case rel => exact ⟨k + 1, HLT.out, by go_num, HT.out, B⟩
    case measure => have hlt' := HLT.out; simp [intOf]; omega
  ·have hkn : k = n := by omega
   subst hkn
   have hli : ¬ (k : Int) < (k : Int) := by omega
   go_wp2_with fail
   go_ret
   exact ⟨by first | rfl | exact ab hA.symm, B⟩

theorem dC {x : NdX} (h : okX x = true) : x.na ≤ 16 ∧ x.np ≤ 8 ∧ x.nh ≤ 16 := by
 unfold okX ndB ndA at h
 simp only [Bool.and_eq_true] at h
 obtain ⟨⟨_, _, _, h1, h2, _, h3, _⟩, _⟩ := h
 refine ⟨?_, ?_, ?_⟩
 ·unfold aP at h1
  simp only [Bool.and_eq_true, decide_eq_true_eq] at h1
  omega
 ·exact dh h2
 ·unfold hrB at h3
  simp only [Bool.and_eq_true, decide_eq_true_eq] at h3
  omega
attribute [-go_sem] loadCells storeCells in
theorem dz (AC : Array Value) (y : CfX) (w : World) (HC : CfW w AC y) :
 Calls Tryz.prog 86 #[.agg AC] w fun e w' => e = .returned (.bool (dI y)) ∧ Below w.heap.size w w' := by
 have CD := fun v => cM y.dn y.dd v
 have C4 := fun v => aD y.pt v
 have C5 := fun v => aD y.ag v
 have C6 := fun v => aD y.ke v
 obtain ⟨p, d, rfl, hpm, hr⟩ := HC
 have CP := fun (v : World) (h : Below w.heap.size w v) => mI y.s y.g p y.m d y.PM v hpm (hr.below h)
 clear hr
 have HK : Hid (dI y = (okD y.dn y.dd && (plB y.s y.g y.PM y.m && ((inI y.li 0 8 && inI y.le 1 8) && ((okT y.pt && (okT y.ag && okT y.ke)) && inI y.lg 1 1000000))))) := by (rw [Hid]; unfold dI cfB; simp only [Bool.and_assoc])
 generalize dI y = R at *
 have A0 := Below.nw w (.cells (cfV y p d) 66)
 have C := Bo.new w (cfV y p d) 66
 have B := A0
 clear A0
 go_enter Tryz.func86, Tryz.ntmps86
 go_upto_region 1 with fail
 generalize w.alloc (.cells (cfV y p d) 66) = v0 at *
 have c2 : v0.cell? ⟨w.heap.size, 2, none⟩ = some (.int .i64 y.li) := C.cell rfl
 have c3 : v0.cell? ⟨w.heap.size, 3, none⟩ = some (.int .i64 y.le) := C.cell rfl
 go_upto_region 1 with fail
 go_cut [3] (fun s3 wx => s3 = .bool (inI y.li 0 8 && inI y.le 1 8) ∧ v0 = wx)
 case first =>
  go_wp2
  all_goals go_meet
  all_goals exact ⟨congrArg Value.bool (by rw [Bool.eq_iff_iff]; simp [inI]; try omega), rfl⟩
 case rest =>
 obtain ⟨rfl, rfl⟩ := hcut
 clear c2 c3
 obtain ⟨b1, hb1⟩ : ∃ b, (inI y.li 0 8 && inI y.le 1 8) = b := ⟨_, rfl⟩
 rw [hb1]
 have c4 : v0.cell? ⟨w.heap.size, 4, none⟩ = some (.int .i64 y.pt) := C.cell rfl
 have c5 : v0.cell? ⟨w.heap.size, 5, none⟩ = some (.int .i64 y.ag) := C.cell rfl
 have c6 : v0.cell? ⟨w.heap.size, 6, none⟩ = some (.int .i64 y.ke) := C.cell rfl
 go_upto_region 2 with fail
 go_cut [4] (fun s4 wx => s4 = .bool (okT y.pt && (okT y.ag && okT y.ke)) ∧ v0 = wx)
 case first =>
  cases h4 : okT y.pt
  ·go_wp2_with fail
   refine (C4 _).mono ?_
   rintro e w' ⟨rfl, rfl⟩
   rw [h4]
   go_wp2_with fail
   go_meet
   exact ⟨congrArg Value.bool (by rw [h4]; rfl), rfl⟩
  cases h5 : okT y.ag
  ·go_wp2_with fail
   refine (C4 _).mono ?_
   rintro e w' ⟨rfl, rfl⟩
   rw [h4]
   go_wp2_with fail
   refine (C5 _).mono ?_
   rintro e w' ⟨rfl, rfl⟩
   rw [h5]
   go_wp2_with fail
   go_meet
   exact ⟨congrArg Value.bool (by rw [h4, h5]; rfl), rfl⟩
  go_wp2_with fail
  refine (C4 _).mono ?_
  rintro e w' ⟨rfl, rfl⟩
  rw [h4]
  go_wp2_with fail
  refine (C5 _).mono ?_
  rintro e w' ⟨rfl, rfl⟩
  rw [h5]
  go_wp2_with fail
  refine (C6 _).mono ?_
  rintro e w' ⟨rfl, rfl⟩
  go_wp2_with fail
  go_meet
  exact ⟨congrArg Value.bool (by rw [h4, h5]; rfl), rfl⟩
 case rest =>
 obtain ⟨rfl, rfl⟩ := hcut
 clear c4 c5 c6 C4 C5 C6
 obtain ⟨b2, hb2⟩ : ∃ b, (okT y.pt && (okT y.ag && okT y.ke)) = b := ⟨_, rfl⟩
 rw [hb2]
 replace HK : Hid (R = (okD y.dn y.dd && (plB y.s y.g y.PM y.m && (b1 && (b2 && inI y.lg 1 1000000))))) := by (rw [Hid, HK.out, hb1, hb2])
 clear hb1 hb2
 have hL0 : (loadCells ⟨w.heap.size, 0, none⟩ 2).run Tryz.prog v0 = .ok #[.int .i64 y.dn, .int .i64 y.dd] v0 := C.loadAt (P := Tryz.prog) 0 2 (show 0 + 2 ≤ 11 by decide)
 go_wp2_with (rw [hL0])
 refine (CD _).mono ?_
 rintro e v1 ⟨rfl, hb⟩
 clear hL0
 replace B := B.trans (hb.mono B.size)
 replace C := C.below hb
 clear hb CD
 cases h6 : okD y.dn y.dd
 ·replace HK : Hid (R = false) := by (rw [Hid, HK.out, h6]; rfl)
  go_wp2_with fail
  go_ret
  exact ⟨ab HK.out.symm, B⟩
 have hL0 : (loadCells ⟨w.heap.size, 8, none⟩ 3).run Tryz.prog v1 = .ok #[.int .i64 y.s, .int .i64 y.g, .slice p y.m d] v1 := C.loadAt (P := Tryz.prog) 8 3 (show 8 + 3 ≤ 11 by decide)
 go_wp2_with (rw [hL0])
 refine (CP _ B).mono ?_
 rintro e v2 ⟨rfl, hb⟩
 clear hL0
 replace B := B.trans (hb.mono B.size)
 replace C := C.below hb
 clear hb CP
 cases h7 : plB y.s y.g y.PM y.m
 ·replace HK : Hid (R = false) := by (rw [Hid, HK.out, h6, h7]; rfl)
  go_wp2_with fail
  go_ret
  exact ⟨ab HK.out.symm, B⟩
 cases b1
 ·replace HK : Hid (R = false) := by (rw [Hid, HK.out, h6, h7]; rfl)
  go_wp2_with fail
  go_ret
  exact ⟨ab HK.out.symm, B⟩
 cases b2
 ·replace HK : Hid (R = false) := by (rw [Hid, HK.out, h6, h7]; rfl)
  go_wp2_with fail
  go_ret
  exact ⟨ab HK.out.symm, B⟩
 replace HK : Hid (R = inI y.lg 1 1000000) := by (rw [Hid, HK.out, h6, h7]; rfl)
 have c7 : v2.cell? ⟨w.heap.size, 7, none⟩ = some (.int .i64 y.lg) := C.cell rfl
 go_wp2
 all_goals go_ret
 all_goals exact ⟨ab (by rw [HK.out, Bool.eq_iff_iff]; simp [inI]; try omega), B⟩
end Go.Proofs.YtikbjljkakabdaaGreat
