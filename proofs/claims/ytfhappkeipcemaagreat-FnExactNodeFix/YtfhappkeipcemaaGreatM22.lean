/- Plans: what the laws make of them. The contracts of a node, told of arrays of cells. What the laws ask of a configuration: how great it is, whether two are the same. A configuration as data; its contracts, told of arrays of cells. What a node knows at a count (the specification), over arrays of cells. NewNode, NodeBoot, NodeCrash in the specification, told of arrays of cells. -/
import Derived.Test.YtfhappkeipcemaaGreatM18
import Derived.Test.YtfhappkeipcemaaGreatM19
import Derived.Test.YtfhappkeipcemaaGreatM21
namespace Go.Proofs.YtfhappkeipcemaaGreat
open Go.RowKit
set_option linter.unusedVariables false
set_option maxHeartbeats 4000000 in
theorem toPlan_any (ep us : Int) (a : Option Addr) (n c : Nat) (M : Nat → SlT) (w : World) (hn : n ≤ 1048576) (h : SrcC w a (n * 2) (MFSlot M)) :
    Calls Tryz.prog 47 #[.agg #[.int .i64 ep, .int .i64 us, .slice a n c]] w fun e w' => e = .returned (.agg #[.int .i64 ep, .int .i64 us, .slice (some ⟨w.heap.size + 3, 0, none⟩) n n]) ∧ RowF w' (w.heap.size + 3) 216 (n * 2) (n * 2) (MFSlot M) ∧ Below w.heap.size w w' := by
  have A0 := ((Below.nw w (.cells #[.int .i64 ep, .int .i64 us, .slice a n c] 26)).alloc (by simp) (.cells #[.int .i64 0, .int .i64 0, .slice none 0 0] 52)).alloc (by simp; omega) (.cells #[.int .i64 ep, .int .i64 us, .slice none 0 0] 52)
  have z3 : (((w.alloc (.cells #[.int .i64 ep, .int .i64 us, .slice a n c] 26)).alloc (.cells #[.int .i64 0, .int .i64 0, .slice none 0 0] 52)).alloc (.cells #[.int .i64 ep, .int .i64 us, .slice none 0 0] 52)).heap.size = w.heap.size + 3 := by simp
  have C := toSlotS_any a n c M _ hn (h.below A0)
  rw [z3] at C
  have r0 : (((w.alloc (.cells #[.int .i64 ep, .int .i64 us, .slice a n c] 26)).alloc (.cells #[.int .i64 0, .int .i64 0, .slice none 0 0] 52)).alloc (.cells #[.int .i64 ep, .int .i64 us, .slice none 0 0] 52)).cell? ⟨w.heap.size + 1, 0, none⟩ = some (.int .i64 0) := by simp [go_sem]
  have f0 : (((w.alloc (.cells #[.int .i64 ep, .int .i64 us, .slice a n c] 26)).alloc (.cells #[.int .i64 0, .int .i64 0, .slice none 0 0] 52)).alloc (.cells #[.int .i64 ep, .int .i64 us, .slice none 0 0] 52)).frozen? ⟨w.heap.size + 1, 0, none⟩ = false := by simp [go_sem]
  have r1 : (((w.alloc (.cells #[.int .i64 ep, .int .i64 us, .slice a n c] 26)).alloc (.cells #[.int .i64 0, .int .i64 0, .slice none 0 0] 52)).alloc (.cells #[.int .i64 ep, .int .i64 us, .slice none 0 0] 52)).cell? ⟨w.heap.size + 1, 1, none⟩ = some (.int .i64 0) := by simp [go_sem]
  have f1 : (((w.alloc (.cells #[.int .i64 ep, .int .i64 us, .slice a n c] 26)).alloc (.cells #[.int .i64 0, .int .i64 0, .slice none 0 0] 52)).alloc (.cells #[.int .i64 ep, .int .i64 us, .slice none 0 0] 52)).frozen? ⟨w.heap.size + 1, 1, none⟩ = false := by simp [go_sem]
  have r2 : (((w.alloc (.cells #[.int .i64 ep, .int .i64 us, .slice a n c] 26)).alloc (.cells #[.int .i64 0, .int .i64 0, .slice none 0 0] 52)).alloc (.cells #[.int .i64 ep, .int .i64 us, .slice none 0 0] 52)).cell? ⟨w.heap.size + 1, 2, none⟩ = some (.slice none 0 0) := by simp [go_sem]
  have f2 : (((w.alloc (.cells #[.int .i64 ep, .int .i64 us, .slice a n c] 26)).alloc (.cells #[.int .i64 0, .int .i64 0, .slice none 0 0] 52)).alloc (.cells #[.int .i64 ep, .int .i64 us, .slice none 0 0] 52)).frozen? ⟨w.heap.size + 1, 2, none⟩ = false := by simp [go_sem]
  have o0 : (((w.alloc (.cells #[.int .i64 ep, .int .i64 us, .slice a n c] 26)).alloc (.cells #[.int .i64 0, .int .i64 0, .slice none 0 0] 52)).alloc (.cells #[.int .i64 ep, .int .i64 us, .slice none 0 0] 52)).cell? ⟨w.heap.size + 1 + 1, 0, none⟩ = some (.int .i64 ep) := by simp [go_sem]
  have o1 : (((w.alloc (.cells #[.int .i64 ep, .int .i64 us, .slice a n c] 26)).alloc (.cells #[.int .i64 0, .int .i64 0, .slice none 0 0] 52)).alloc (.cells #[.int .i64 ep, .int .i64 us, .slice none 0 0] 52)).cell? ⟨w.heap.size + 1 + 1, 1, none⟩ = some (.int .i64 us) := by simp [go_sem]
  have o2 : (((w.alloc (.cells #[.int .i64 ep, .int .i64 us, .slice a n c] 26)).alloc (.cells #[.int .i64 0, .int .i64 0, .slice none 0 0] 52)).alloc (.cells #[.int .i64 ep, .int .i64 us, .slice none 0 0] 52)).cell? ⟨w.heap.size + 1 + 1, 2, none⟩ = some (.slice none 0 0) := by simp [go_sem]
  have g2 : (((w.alloc (.cells #[.int .i64 ep, .int .i64 us, .slice a n c] 26)).alloc (.cells #[.int .i64 0, .int .i64 0, .slice none 0 0] 52)).alloc (.cells #[.int .i64 ep, .int .i64 us, .slice none 0 0] 52)).frozen? ⟨w.heap.size + 1 + 1, 2, none⟩ = false := by simp [go_sem]
  clear h
  go_enter Tryz.func47, Tryz.ntmps47
  go_wp2_with fail
  refine C.mono ?_
  rintro e w1 ⟨rfl, R1, hb⟩
  have l3 := R1.lt
  have q0 := (hb.cell (p := ⟨w.heap.size + 1, 0, none⟩) (by simp)).trans r0
  have k0 := (hb.frozen (p := ⟨w.heap.size + 1, 0, none⟩) (by simp)).trans f0
  have q1 := (hb.cell (p := ⟨w.heap.size + 1, 1, none⟩) (by simp)).trans r1
  have k1 := (hb.frozen (p := ⟨w.heap.size + 1, 1, none⟩) (by simp)).trans f1
  have q2 := (hb.cell (p := ⟨w.heap.size + 1, 2, none⟩) (by simp)).trans r2
  have k2 := (hb.frozen (p := ⟨w.heap.size + 1, 2, none⟩) (by simp)).trans f2
  have p0 := (hb.cell (p := ⟨w.heap.size + 1 + 1, 0, none⟩) (by simp)).trans o0
  have p1 := (hb.cell (p := ⟨w.heap.size + 1 + 1, 1, none⟩) (by simp)).trans o1
  have p2 := (hb.cell (p := ⟨w.heap.size + 1 + 1, 2, none⟩) (by simp)).trans o2
  have j2 := (hb.frozen (p := ⟨w.heap.size + 1 + 1, 2, none⟩) (by simp)).trans g2
  have B1 := A0.trans (hb.mono (by omega))
  have RF : RowF ((((w1.setCell ⟨w.heap.size + 1 + 1, 2, none⟩ (.slice (some ⟨w.heap.size + 3, 0, none⟩) n n)).setCell ⟨w.heap.size + 1, 0, none⟩ (.int .i64 ep)).setCell ⟨w.heap.size + 1, 1, none⟩ (.int .i64 us)).setCell ⟨w.heap.size + 1, 2, none⟩ (.slice (some ⟨w.heap.size + 3, 0, none⟩) n n)) (w.heap.size + 3) 216 (n * 2) (n * 2) (MFSlot M) := (((R1.setO (by omega) _ _).setO (by omega) _ _).setO (by omega) _ _).setO (by omega) _ _
  have BF : Below w.heap.size w ((((w1.setCell ⟨w.heap.size + 1 + 1, 2, none⟩ (.slice (some ⟨w.heap.size + 3, 0, none⟩) n n)).setCell ⟨w.heap.size + 1, 0, none⟩ (.int .i64 ep)).setCell ⟨w.heap.size + 1, 1, none⟩ (.int .i64 us)).setCell ⟨w.heap.size + 1, 2, none⟩ (.slice (some ⟨w.heap.size + 3, 0, none⟩) n n)) := (((B1.setCell (by simp; omega) _).setCell (by simp) _).setCell (by simp) _).setCell (by simp) _
  have s1 : w.heap.size + 1 < w1.heap.size := by omega
  have s2 : w.heap.size + 1 + 1 < w1.heap.size := by omega
  clear hb C r0 r1 r2 o0 o1 o2 f0 f1 f2 g2 A0 z3 R1 B1
  go_wp2_with fail
  exact bodyPost_ret (v := .agg #[.int .i64 ep, .int .i64 us, .slice (some ⟨w.heap.size + 3, 0, none⟩) n n]) (by simp (maxDischargeDepth := 6) [results, Tryz.results47, go_sem, *]) rfl ⟨rfl, RF, BF⟩
set_option maxHeartbeats 2000000 in
theorem eqPlan_same (ep us : Int) (a a' : Option Addr) (n c c' : Nat) (M : Nat → SlT) (w : World) (hn : n ≤ maxLen) (h : SrcC w a (n * 2) (MFSlot M)) (h' : SrcC w a' (n * 2) (MFSlot M)) :
    Calls Tryz.prog 57 #[.agg #[.int .i64 ep, .int .i64 us, .slice a n c], .agg #[.int .i64 ep, .int .i64 us, .slice a' n c']] w fun e w' => e = .returned (.bool true) ∧ Below w.heap.size w w' := by
  have A0 := (Below.nw w (.cells #[.int .i64 ep, .int .i64 us, .slice a n c] 52)).alloc (by simp) (.cells #[.int .i64 ep, .int .i64 us, .slice a' n c'] 52)
  have C := eqSlotS_src a a' n c c' M _ hn (h.below A0) (h'.below A0)
  clear h h'
  go_enter Tryz.func57, Tryz.ntmps57
  go_wp2_with fail
  refine C.mono ?_
  rintro e w1 ⟨rfl, hb⟩
  go_wp2_with fail
  go_ret
  exact ⟨rfl, A0.trans (hb.mono A0.size)⟩
end Go.Proofs.YtfhappkeipcemaaGreat
namespace Go.Proofs.YtfhappkeipcemaaGreat
open Go.RowKit
set_option linter.unusedVariables false
theorem RowF.rwo {w : World} {b n sz base : Nat} {T : TypeId} {F : Nat → Value} (h : RowF w b T (n * sz) (n * sz) F) (hn : n ≤ 1048576) (hb : base ≤ b) : Rwo w base w.heap.size T sz (some ⟨b, 0, none⟩) n n F := by
  obtain ⟨g, ⟨c, hc, hs, hv⟩, hg⟩ := h
  have hlt : b < w.heap.size := (Array.getElem?_eq_some_iff.1 hc).1
  refine ⟨⟨by simp, .inr ⟨b, n, c, rfl, hb, hc, Nat.le_refl _, by unfold maxLen; omega, hs, ?_⟩⟩, fun g' e => by cases e; exact hlt⟩
  apply List.ext_getElem?
  intro j
  by_cases hj : j < n * sz
  · rw [List.getElem?_take, if_pos hj]
    have h1 := hv j hj
    have e : c.toList[j]? = c[j]? := by simp
    rw [e, h1, hg j hj]
    simp [hj]
  · rw [List.getElem?_eq_none (by simp; omega), List.getElem?_eq_none (by simp; omega)]
theorem eqNodeX (A A' : Array Value) (x : NdX) (w : World) (h : NdS w A x) (h' : NdS w A' x) :
    Calls Tryz.prog 18 #[.agg A, .agg A'] w fun e w' => e = .returned (.bool true) ∧ Below w.heap.size w w' := by
  obtain ⟨aa, ac, pa, pc, ha, hc, rfl, hl, h1, h2, h3⟩ := h
  obtain ⟨aa', ac', pa', pc', ha', hc', rfl, hl', h1', h2', h3'⟩ := h'
  exact eqNode_same x.ni x.mo x.ep x.si x.kn x.lo x.hi x.la x.te x.us aa x.na ac x.AM pa x.np pc x.QM x.hs x.ls ha x.nh hc x.HM x.se aa' pa' ha' ac' pc' hc' w hl.1 h1.src hl.2.1 h2.src hl.2.2 h3.src h1'.src h2'.src h3'.src
def okX (x : NdX) : Bool := ndB x.ni x.mo x.ep x.si x.kn x.lo x.hi x.la x.te x.us x.AM x.na x.QM x.np x.hs x.ls x.HM x.nh x.se
def cmX (x : NdX) (ct : Int) : Bool := cmB x.si x.la x.se x.AM x.na x.QM x.np x.HM x.nh ct
theorem specFirstX (A : Array Value) (x : NdX) (ct : Int) (w : World) (h : NdS w A x) :
    Calls Tryz.prog 44 #[.agg A, .int .i64 ct] w fun e w' => e = .returned (.int .i64 (fiI (okX x) (cmX x ct) x.mo)) ∧ Below w.heap.size w w' := by
  obtain ⟨aa, ac, pa, pc, ha, hc, rfl, hl, h1, h2, h3⟩ := h
  exact specFirst_any x.ni x.mo x.ep x.si x.kn x.lo x.hi x.la x.te x.us aa x.na ac x.AM pa x.np pc x.QM x.hs x.ls ha x.nh hc x.HM x.se ct w hl.1 h1.src hl.2.1 h2.src hl.2.2 h3.src
theorem rwo_of {w : World} {base : Nat} {T : TypeId} {sz : Nat} {a : Option Addr} {n c : Nat} {F : Nat → Value} (h : w.ownsRow base T sz (.slice a n c) n ((List.range (n * sz)).map F)) : Rwo w base w.heap.size T sz a n c F :=
  ⟨h, fun g hg => (World.ownsRow.lt h g hg).2⟩
def zX (id mo ep si te se : Int) : NdX := ⟨id, mo, ep, si, false, 0, 0, 0, te, 0, fun _ => (0, 0, 0, 0), 0, fun _ => (0, 0, 0, 0, false), 0, false, 0, fun _ => (0, 0), 0, se⟩
end Go.Proofs.YtfhappkeipcemaaGreat
namespace Go.Proofs.YtfhappkeipcemaaGreat
open Go.RowKit
set_option linter.unusedVariables false
set_option maxRecDepth 100000 in
set_option maxHeartbeats 8000000 in
theorem szCfg_at (dn dd li le pt ag ke lg s g : Int) (p : Option Addr) (m d : Nat) (PM : Nat → SlT) (Z : Int) (w : World) (hm : m ≤ maxLen) (h0 : 0 ≤ Z) (h1 : Z ≤ 1048576) :
    Calls Tryz.prog 10 #[.agg #[.int .i64 dn, .int .i64 dd, .int .i64 li, .int .i64 le, .int .i64 pt, .int .i64 ag, .int .i64 ke, .int .i64 lg, .int .i64 s, .int .i64 g, .slice p m d], .int .i64 Z] w fun e w' => ∃ L : Int, e = .returned (.int .i64 L) ∧ (0 ≤ L → m ≤ 1048576 ∧ L ≤ 1048576) ∧ Below w.heap.size w w' := by
  have B := Below.nw w (.cells #[.int .i64 dn, .int .i64 dd, .int .i64 li, .int .i64 le, .int .i64 pt, .int .i64 ag, .int .i64 ke, .int .i64 lg, .int .i64 s, .int .i64 g, .slice p m d] 28)
  have C := Cx11.new w (.int .i64 dn) (.int .i64 dd) (.int .i64 li) (.int .i64 le) (.int .i64 pt) (.int .i64 ag) (.int .i64 ke) (.int .i64 lg) (.int .i64 s) (.int .i64 g) (.slice p m d) 28
  have C1 := fun w' => szPlan_at s g p m d Z w' hm h0 h1
  go_enter Tryz.func10, Tryz.ntmps10
  go_upto_region 1 with fail
  generalize w.alloc (.cells #[.int .i64 dn, .int .i64 dd, .int .i64 li, .int .i64 le, .int .i64 pt, .int .i64 ag, .int .i64 ke, .int .i64 lg, .int .i64 s, .int .i64 g, .slice p m d] 28) = v at *
  obtain ⟨x0, x1, x2, x3, x4, x5, x6, x7, x8, x9, x10, x11, y0, y1, y2, y3, y4, y5, y6, y7, y8, y9, y10⟩ := id C
  go_wp2_with fail
  refine (C1 _).mono ?_
  rintro e v1 ⟨L, rfl, hL, hb⟩
  clear x0 x1 x2 x3 x4 x5 x6 x7 x8 x9 x10 x11 y0 y1 y2 y3 y4 y5 y6 y7 y8 y9 y10
  replace B := B.trans (hb.mono B.size)
  clear hb C C1
  by_cases hz : L < 0
  · go_wp2_with fail
    go_ret
    exact ⟨-1, rfl, fun h => absurd h (by decide), B⟩
  · have HL : Hid (0 ≤ L → m ≤ 1048576 ∧ L ≤ 1048576) := hL
    clear hL
    go_wp2_with fail
    go_ret
    exact ⟨L, rfl, HL.out, B⟩
set_option maxRecDepth 100000 in
set_option maxHeartbeats 8000000 in
theorem eqCfg_same (dn dd li le pt ag ke lg s g : Int) (p : Option Addr) (m d : Nat) (PM : Nat → SlT) (p' : Option Addr) (d' : Nat) (w : World) (hm : m ≤ maxLen) (h : SrcC w p (m * 2) (MFSlot PM)) (h' : SrcC w p' (m * 2) (MFSlot PM)) :
    Calls Tryz.prog 17 #[.agg #[.int .i64 dn, .int .i64 dd, .int .i64 li, .int .i64 le, .int .i64 pt, .int .i64 ag, .int .i64 ke, .int .i64 lg, .int .i64 s, .int .i64 g, .slice p m d], .agg #[.int .i64 dn, .int .i64 dd, .int .i64 li, .int .i64 le, .int .i64 pt, .int .i64 ag, .int .i64 ke, .int .i64 lg, .int .i64 s, .int .i64 g, .slice p' m d']] w fun e w' => e = .returned (.bool true) ∧ Below w.heap.size w w' := by
  have A0 := Below.nw w (.cells #[.int .i64 dn, .int .i64 dd, .int .i64 li, .int .i64 le, .int .i64 pt, .int .i64 ag, .int .i64 ke, .int .i64 lg, .int .i64 s, .int .i64 g, .slice p m d] 54)
  have A1 := Below.nw (w.alloc (.cells #[.int .i64 dn, .int .i64 dd, .int .i64 li, .int .i64 le, .int .i64 pt, .int .i64 ag, .int .i64 ke, .int .i64 lg, .int .i64 s, .int .i64 g, .slice p m d] 54)) (.cells #[.int .i64 dn, .int .i64 dd, .int .i64 li, .int .i64 le, .int .i64 pt, .int .i64 ag, .int .i64 ke, .int .i64 lg, .int .i64 s, .int .i64 g, .slice p' m d'] 54)
  have C := (Cx11.new w (.int .i64 dn) (.int .i64 dd) (.int .i64 li) (.int .i64 le) (.int .i64 pt) (.int .i64 ag) (.int .i64 ke) (.int .i64 lg) (.int .i64 s) (.int .i64 g) (.slice p m d) 54).below A1
  have X := Cx11.new (w.alloc (.cells #[.int .i64 dn, .int .i64 dd, .int .i64 li, .int .i64 le, .int .i64 pt, .int .i64 ag, .int .i64 ke, .int .i64 lg, .int .i64 s, .int .i64 g, .slice p m d] 54)) (.int .i64 dn) (.int .i64 dd) (.int .i64 li) (.int .i64 le) (.int .i64 pt) (.int .i64 ag) (.int .i64 ke) (.int .i64 lg) (.int .i64 s) (.int .i64 g) (.slice p' m d') 54
  have B := A0.trans (A1.mono A0.size)
  simp only [World.size_alloc] at X
  clear A0 A1
  have C1 := fun w' => eqDrift_same dn dd w'
  have C2 := fun (w' : World) (hb : Below w.heap.size w w') => eqPlan_same s g p p' m d d' PM w' hm (h.below hb) (h'.below hb)
  clear h h'
  go_enter Tryz.func17, Tryz.ntmps17
  go_upto_region 1 with fail
  generalize (w.alloc (.cells #[.int .i64 dn, .int .i64 dd, .int .i64 li, .int .i64 le, .int .i64 pt, .int .i64 ag, .int .i64 ke, .int .i64 lg, .int .i64 s, .int .i64 g, .slice p m d] 54)).alloc (.cells #[.int .i64 dn, .int .i64 dd, .int .i64 li, .int .i64 le, .int .i64 pt, .int .i64 ag, .int .i64 ke, .int .i64 lg, .int .i64 s, .int .i64 g, .slice p' m d'] 54) = v at *
  obtain ⟨x0, x1, x2, x3, x4, x5, x6, x7, x8, x9, x10, x11, y0, y1, y2, y3, y4, y5, y6, y7, y8, y9, y10⟩ := id C
  obtain ⟨u0, u1, u2, u3, u4, u5, u6, u7, u8, u9, u10, u11, t0, t1, t2, t3, t4, t5, t6, t7, t8, t9, t10⟩ := id X
  go_wp2_with fail
  refine (C1 _).mono ?_
  rintro e v1 ⟨rfl, hb⟩
  clear x0 x1 x2 x3 x4 x5 x6 x7 x8 x9 x10 x11 y0 y1 y2 y3 y4 y5 y6 y7 y8 y9 y10
  clear u0 u1 u2 u3 u4 u5 u6 u7 u8 u9 u10 u11 t0 t1 t2 t3 t4 t5 t6 t7 t8 t9 t10
  replace B := B.trans (hb.mono B.size)
  replace C := C.below hb
  replace X := X.below hb
  clear hb C1
  obtain ⟨x0, x1, x2, x3, x4, x5, x6, x7, x8, x9, x10, x11, y0, y1, y2, y3, y4, y5, y6, y7, y8, y9, y10⟩ := id C
  obtain ⟨u0, u1, u2, u3, u4, u5, u6, u7, u8, u9, u10, u11, t0, t1, t2, t3, t4, t5, t6, t7, t8, t9, t10⟩ := id X
  have e1 : (li != li) = false := by simp
  have e2 : (le != le) = false := by simp
  have e3 : (pt != pt) = false := by simp
  have e4 : (ag != ag) = false := by simp
  have e5 : (ke != ke) = false := by simp
  have e6 : (lg != lg) = false := by simp
  go_wp2_with fail
  refine (C2 _ B).mono ?_
  rintro e v2 ⟨rfl, hb⟩
  clear x0 x1 x2 x3 x4 x5 x6 x7 x8 x9 x10 x11 y0 y1 y2 y3 y4 y5 y6 y7 y8 y9 y10
  clear u0 u1 u2 u3 u4 u5 u6 u7 u8 u9 u10 u11 t0 t1 t2 t3 t4 t5 t6 t7 t8 t9 t10
  replace B := B.trans (hb.mono B.size)
  clear hb C X C2
  go_wp2_with fail
  go_ret
  exact ⟨rfl, B⟩
end Go.Proofs.YtfhappkeipcemaaGreat
namespace Go.Proofs.YtfhappkeipcemaaGreat
open Go.RowKit
set_option linter.unusedVariables false
structure CfX where
  dn : Int
  dd : Int
  li : Int
  le : Int
  pt : Int
  ag : Int
  ke : Int
  lg : Int
  s : Int
  g : Int
  PM : Nat → SlT
  m : Nat
def cfV (y : CfX) (p : Option Addr) (d : Nat) : Array Value :=
  #[.int .i64 y.dn, .int .i64 y.dd, .int .i64 y.li, .int .i64 y.le, .int .i64 y.pt, .int .i64 y.ag, .int .i64 y.ke, .int .i64 y.lg, .int .i64 y.s, .int .i64 y.g, .slice p y.m d]
def CfS (w : World) (A : Array Value) (y : CfX) : Prop := ∃ p d, A = cfV y p d ∧ y.m ≤ maxLen ∧ RwO w p y.m d 2 (MFSlot y.PM)
theorem CfS.below {w w' : World} {A : Array Value} {y : CfX} (h : CfS w A y) (hb : Below w.heap.size w w') : CfS w' A y := by
  obtain ⟨p, d, e, hl, h1⟩ := h
  exact ⟨p, d, e, hl, h1.below hb⟩
theorem CfS.size {w : World} {A : Array Value} {y : CfX} (h : CfS w A y) : A.size = 11 := by
  obtain ⟨p, d, e, _⟩ := h
  rw [e]; rfl
theorem CfS.one {w : World} {A : Array Value} {y : CfX} (h : CfS w A y) : ∀ u ∈ A.toList, u.oneCell' = true := by
  obtain ⟨p, d, e, _⟩ := h
  rw [e]
  intro u hu
  simp only [cfV, List.mem_cons, List.not_mem_nil, or_false] at hu
  rcases hu with h | h | h | h | h | h | h | h | h | h | h <;> (subst h; rfl)
def CfO (w : World) (l u : Nat) (A : Array Value) (y : CfX) : Prop := ∃ p d, A = cfV y p d ∧ y.m ≤ 1048576 ∧ Rwo w l u 216 2 p y.m d (MFSlot y.PM)
theorem CfO.below {w w' : World} {l u : Nat} {A : Array Value} {y : CfX} (h : CfO w l u A y) (hb : Below w.heap.size w w') : CfO w' l u A y := by
  obtain ⟨p, d, e, hl, h1⟩ := h
  exact ⟨p, d, e, hl, h1.below hb⟩
theorem CfO.btw {w w' : World} {l u l' u' : Nat} {A : Array Value} {y : CfX} (h : CfO w l u A y) (hb : Btw l' u' w w') (ho : u ≤ l' ∨ u' ≤ l) : CfO w' l u A y := by
  obtain ⟨p, d, e, hl, h1⟩ := h
  exact ⟨p, d, e, hl, h1.btw hb ho⟩
theorem CfO.src {w : World} {l u : Nat} {A : Array Value} {y : CfX} (h : CfO w l u A y) : CfS w A y := by
  obtain ⟨p, d, e, hl, h1⟩ := h
  exact ⟨p, d, e, by unfold maxLen; omega, h1.rw⟩
theorem CfO.size {w : World} {l u : Nat} {A : Array Value} {y : CfX} (h : CfO w l u A y) : A.size = 11 := h.src.size
theorem CfO.one {w : World} {l u : Nat} {A : Array Value} {y : CfX} (h : CfO w l u A y) : ∀ v ∈ A.toList, v.oneCell' = true := h.src.one
theorem eqCfgX (A A' : Array Value) (y : CfX) (w : World) (h : CfS w A y) (h' : CfS w A' y) :
    Calls Tryz.prog 17 #[.agg A, .agg A'] w fun e w' => e = .returned (.bool true) ∧ Below w.heap.size w w' := by
  obtain ⟨p, d, rfl, hl, h1⟩ := h
  obtain ⟨p', d', rfl, hl', h1'⟩ := h'
  exact eqCfg_same y.dn y.dd y.li y.le y.pt y.ag y.ke y.lg y.s y.g p y.m d y.PM p' d' w hl h1.src h1'.src
def cokX (y : CfX) : Bool := cfB y.dn y.dd y.li y.le y.pt y.ag y.ke y.lg y.s y.g y.PM y.m
theorem specCfgOkX (A : Array Value) (y : CfX) (w : World) (h : CfS w A y) :
    Calls Tryz.prog 43 #[.agg A] w fun e w' => e = .returned (.bool (cokX y)) ∧ Below w.heap.size w w' := by
  obtain ⟨p, d, rfl, hl, h1⟩ := h
  exact specCfgOk_any y.dn y.dd y.li y.le y.pt y.ag y.ke y.lg y.s y.g p y.m d y.PM w hl h1.src
end Go.Proofs.YtfhappkeipcemaaGreat
namespace Go.Proofs.YtfhappkeipcemaaGreat
open Go.RowKit
set_option linter.unusedVariables false
def staI (y : CfX) (x : NdX) (ct : Int) : Int := match cokX y with | false => 1 | true => fiI (okX x) (cmX x ct) x.mo
end Go.Proofs.YtfhappkeipcemaaGreat
namespace Go.Proofs.YtfhappkeipcemaaGreat
open Go.RowKit
set_option linter.unusedVariables false
theorem okX_short {x : NdX} (h : okX x = true) : x.na ≤ 16 ∧ x.np ≤ 8 ∧ x.nh ≤ 16 := by
  unfold okX ndB ndA at h
  simp only [Bool.and_eq_true] at h
  obtain ⟨⟨_, _, _, h1, h2, _, h3, _⟩, _⟩ := h
  refine ⟨?_, ?_, ?_⟩
  · unfold tabB at h1
    simp only [Bool.and_eq_true, decide_eq_true_eq] at h1
    omega
  · exact oks_le h2
  · unfold hrB at h3
    simp only [Bool.and_eq_true, decide_eq_true_eq] at h3
    omega
end Go.Proofs.YtfhappkeipcemaaGreat
