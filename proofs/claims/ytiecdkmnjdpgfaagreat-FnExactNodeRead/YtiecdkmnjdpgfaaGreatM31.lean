/- Plans: what the laws make of them. What the laws ask of a configuration: how great it is, whether two are the same. A configuration as data; its contracts, told of arrays of cells. A configuration, marked (the laws). -/
import Derived.Test.YtiecdkmnjdpgfaaGreatM23
import Derived.Test.YtiecdkmnjdpgfaaGreatM28
namespace Go.Proofs.YtiecdkmnjdpgfaaGreat
open Go.RowKit
set_option linter.unusedVariables false
set_option maxHeartbeats 4000000 in
theorem toPlan_any (ep us : Int) (a : Option Addr) (n c : Nat) (M : Nat → SlT) (w : World) (hn : n ≤ 1048576) (h : SrcC w a (n * 2) (MFSlot M)) :
    Calls Tryz.prog 38 #[.agg #[.int .i64 ep, .int .i64 us, .slice a n c]] w fun e w' => e = .returned (.agg #[.int .i64 ep, .int .i64 us, .slice (some ⟨w.heap.size + 3, 0, none⟩) n n]) ∧ RowF w' (w.heap.size + 3) 212 (n * 2) (n * 2) (MFSlot M) ∧ Below w.heap.size w w' := by
  have A0 := ((Below.nw w (.cells #[.int .i64 ep, .int .i64 us, .slice a n c] 26)).alloc (by simp) (.cells #[.int .i64 0, .int .i64 0, .slice none 0 0] 65)).alloc (by simp; omega) (.cells #[.int .i64 ep, .int .i64 us, .slice none 0 0] 65)
  have z3 : (((w.alloc (.cells #[.int .i64 ep, .int .i64 us, .slice a n c] 26)).alloc (.cells #[.int .i64 0, .int .i64 0, .slice none 0 0] 65)).alloc (.cells #[.int .i64 ep, .int .i64 us, .slice none 0 0] 65)).heap.size = w.heap.size + 3 := by simp
  have C := toSlotS_any a n c M _ hn (h.below A0)
  rw [z3] at C
  have r0 : (((w.alloc (.cells #[.int .i64 ep, .int .i64 us, .slice a n c] 26)).alloc (.cells #[.int .i64 0, .int .i64 0, .slice none 0 0] 65)).alloc (.cells #[.int .i64 ep, .int .i64 us, .slice none 0 0] 65)).cell? ⟨w.heap.size + 1, 0, none⟩ = some (.int .i64 0) := by simp [go_sem]
  have f0 : (((w.alloc (.cells #[.int .i64 ep, .int .i64 us, .slice a n c] 26)).alloc (.cells #[.int .i64 0, .int .i64 0, .slice none 0 0] 65)).alloc (.cells #[.int .i64 ep, .int .i64 us, .slice none 0 0] 65)).frozen? ⟨w.heap.size + 1, 0, none⟩ = false := by simp [go_sem]
  have r1 : (((w.alloc (.cells #[.int .i64 ep, .int .i64 us, .slice a n c] 26)).alloc (.cells #[.int .i64 0, .int .i64 0, .slice none 0 0] 65)).alloc (.cells #[.int .i64 ep, .int .i64 us, .slice none 0 0] 65)).cell? ⟨w.heap.size + 1, 1, none⟩ = some (.int .i64 0) := by simp [go_sem]
  have f1 : (((w.alloc (.cells #[.int .i64 ep, .int .i64 us, .slice a n c] 26)).alloc (.cells #[.int .i64 0, .int .i64 0, .slice none 0 0] 65)).alloc (.cells #[.int .i64 ep, .int .i64 us, .slice none 0 0] 65)).frozen? ⟨w.heap.size + 1, 1, none⟩ = false := by simp [go_sem]
  have r2 : (((w.alloc (.cells #[.int .i64 ep, .int .i64 us, .slice a n c] 26)).alloc (.cells #[.int .i64 0, .int .i64 0, .slice none 0 0] 65)).alloc (.cells #[.int .i64 ep, .int .i64 us, .slice none 0 0] 65)).cell? ⟨w.heap.size + 1, 2, none⟩ = some (.slice none 0 0) := by simp [go_sem]
  have f2 : (((w.alloc (.cells #[.int .i64 ep, .int .i64 us, .slice a n c] 26)).alloc (.cells #[.int .i64 0, .int .i64 0, .slice none 0 0] 65)).alloc (.cells #[.int .i64 ep, .int .i64 us, .slice none 0 0] 65)).frozen? ⟨w.heap.size + 1, 2, none⟩ = false := by simp [go_sem]
  have o0 : (((w.alloc (.cells #[.int .i64 ep, .int .i64 us, .slice a n c] 26)).alloc (.cells #[.int .i64 0, .int .i64 0, .slice none 0 0] 65)).alloc (.cells #[.int .i64 ep, .int .i64 us, .slice none 0 0] 65)).cell? ⟨w.heap.size + 1 + 1, 0, none⟩ = some (.int .i64 ep) := by simp [go_sem]
  have o1 : (((w.alloc (.cells #[.int .i64 ep, .int .i64 us, .slice a n c] 26)).alloc (.cells #[.int .i64 0, .int .i64 0, .slice none 0 0] 65)).alloc (.cells #[.int .i64 ep, .int .i64 us, .slice none 0 0] 65)).cell? ⟨w.heap.size + 1 + 1, 1, none⟩ = some (.int .i64 us) := by simp [go_sem]
  have o2 : (((w.alloc (.cells #[.int .i64 ep, .int .i64 us, .slice a n c] 26)).alloc (.cells #[.int .i64 0, .int .i64 0, .slice none 0 0] 65)).alloc (.cells #[.int .i64 ep, .int .i64 us, .slice none 0 0] 65)).cell? ⟨w.heap.size + 1 + 1, 2, none⟩ = some (.slice none 0 0) := by simp [go_sem]
  have g2 : (((w.alloc (.cells #[.int .i64 ep, .int .i64 us, .slice a n c] 26)).alloc (.cells #[.int .i64 0, .int .i64 0, .slice none 0 0] 65)).alloc (.cells #[.int .i64 ep, .int .i64 us, .slice none 0 0] 65)).frozen? ⟨w.heap.size + 1 + 1, 2, none⟩ = false := by simp [go_sem]
  clear h
  go_enter Tryz.func38, Tryz.ntmps38
  go_wp2_with fail
  refine C.mono ?_
  rintro e w1 ⟨rfl, R1, hb⟩
  have l3 := R1.lt
  have q0 := (hb.cell (p := ⟨w.heap.size + 1, 0, none⟩) (by simp)).trans r0
  have k0 := (hb.frozen (p := ⟨w.heap.size + 1, 0, none⟩) (by simp)).trans f0
  have q1 := (hb.cell (p := ⟨w.heap.size + 1, 1, none⟩) (by simp)).trans r1
  have k1 := (hb.frozen (p := ⟨w.heap.size + 1, 1, none⟩) (by simp)).trans f1
  have q2 := (hb.cell (p := ⟨w.heap.size + 1, 2, none⟩) (by simp)).trans r2
  have k2 := (hb.frozen (p := ⟨w.heap.size + 1, 2, none⟩) (by simp)).trans f2
  have p0 := (hb.cell (p := ⟨w.heap.size + 1 + 1, 0, none⟩) (by simp)).trans o0
  have p1 := (hb.cell (p := ⟨w.heap.size + 1 + 1, 1, none⟩) (by simp)).trans o1
  have p2 := (hb.cell (p := ⟨w.heap.size + 1 + 1, 2, none⟩) (by simp)).trans o2
  have j2 := (hb.frozen (p := ⟨w.heap.size + 1 + 1, 2, none⟩) (by simp)).trans g2
  have B1 := A0.trans (hb.mono (by omega))
  have RF : RowF ((((w1.setCell ⟨w.heap.size + 1 + 1, 2, none⟩ (.slice (some ⟨w.heap.size + 3, 0, none⟩) n n)).setCell ⟨w.heap.size + 1, 0, none⟩ (.int .i64 ep)).setCell ⟨w.heap.size + 1, 1, none⟩ (.int .i64 us)).setCell ⟨w.heap.size + 1, 2, none⟩ (.slice (some ⟨w.heap.size + 3, 0, none⟩) n n)) (w.heap.size + 3) 212 (n * 2) (n * 2) (MFSlot M) := (((R1.setO (by omega) _ _).setO (by omega) _ _).setO (by omega) _ _).setO (by omega) _ _
  have BF : Below w.heap.size w ((((w1.setCell ⟨w.heap.size + 1 + 1, 2, none⟩ (.slice (some ⟨w.heap.size + 3, 0, none⟩) n n)).setCell ⟨w.heap.size + 1, 0, none⟩ (.int .i64 ep)).setCell ⟨w.heap.size + 1, 1, none⟩ (.int .i64 us)).setCell ⟨w.heap.size + 1, 2, none⟩ (.slice (some ⟨w.heap.size + 3, 0, none⟩) n n)) := (((B1.setCell (by simp; omega) _).setCell (by simp) _).setCell (by simp) _).setCell (by simp) _
  have s1 : w.heap.size + 1 < w1.heap.size := by omega
  have s2 : w.heap.size + 1 + 1 < w1.heap.size := by omega
  clear hb C r0 r1 r2 o0 o1 o2 f0 f1 f2 g2 A0 z3 R1 B1
  go_wp2_with fail
  exact bodyPost_ret (v := .agg #[.int .i64 ep, .int .i64 us, .slice (some ⟨w.heap.size + 3, 0, none⟩) n n]) (by simp (maxDischargeDepth := 6) [results, Tryz.results38, go_sem, *]) rfl ⟨rfl, RF, BF⟩
set_option maxHeartbeats 2000000 in
theorem eqPlan_same (ep us : Int) (a a' : Option Addr) (n c c' : Nat) (M : Nat → SlT) (w : World) (hn : n ≤ maxLen) (h : SrcC w a (n * 2) (MFSlot M)) (h' : SrcC w a' (n * 2) (MFSlot M)) :
    Calls Tryz.prog 57 #[.agg #[.int .i64 ep, .int .i64 us, .slice a n c], .agg #[.int .i64 ep, .int .i64 us, .slice a' n c']] w fun e w' => e = .returned (.bool true) ∧ Below w.heap.size w w' := by
  have A0 := (Below.nw w (.cells #[.int .i64 ep, .int .i64 us, .slice a n c] 65)).alloc (by simp) (.cells #[.int .i64 ep, .int .i64 us, .slice a' n c'] 65)
  have C := eqSlotS_src a a' n c c' M _ hn (h.below A0) (h'.below A0)
  clear h h'
  go_enter Tryz.func57, Tryz.ntmps57
  go_wp2_with fail
  refine C.mono ?_
  rintro e w1 ⟨rfl, hb⟩
  go_wp2_with fail
  go_ret
  exact ⟨rfl, A0.trans (hb.mono A0.size)⟩
end Go.Proofs.YtiecdkmnjdpgfaaGreat
namespace Go.Proofs.YtiecdkmnjdpgfaaGreat
open Go.RowKit
set_option linter.unusedVariables false
set_option maxRecDepth 100000 in
set_option maxHeartbeats 8000000 in
theorem szCfg_at (dn dd li le pt ag ke lg s g : Int) (p : Option Addr) (m d : Nat) (PM : Nat → SlT) (Z : Int) (w : World) (hm : m ≤ maxLen) (h0 : 0 ≤ Z) (h1 : Z ≤ 1048576) :
    Calls Tryz.prog 7 #[.agg #[.int .i64 dn, .int .i64 dd, .int .i64 li, .int .i64 le, .int .i64 pt, .int .i64 ag, .int .i64 ke, .int .i64 lg, .int .i64 s, .int .i64 g, .slice p m d], .int .i64 Z] w fun e w' => ∃ L : Int, e = .returned (.int .i64 L) ∧ (0 ≤ L → m ≤ 1048576 ∧ L ≤ 1048576) ∧ Below w.heap.size w w' := by
  have B := Below.nw w (.cells #[.int .i64 dn, .int .i64 dd, .int .i64 li, .int .i64 le, .int .i64 pt, .int .i64 ag, .int .i64 ke, .int .i64 lg, .int .i64 s, .int .i64 g, .slice p m d] 28)
  have C := Cx11.new w (.int .i64 dn) (.int .i64 dd) (.int .i64 li) (.int .i64 le) (.int .i64 pt) (.int .i64 ag) (.int .i64 ke) (.int .i64 lg) (.int .i64 s) (.int .i64 g) (.slice p m d) 28
  have C1 := fun w' => szPlan_at s g p m d Z w' hm h0 h1
  go_enter Tryz.func7, Tryz.ntmps7
  go_upto_region 1 with fail
  generalize w.alloc (.cells #[.int .i64 dn, .int .i64 dd, .int .i64 li, .int .i64 le, .int .i64 pt, .int .i64 ag, .int .i64 ke, .int .i64 lg, .int .i64 s, .int .i64 g, .slice p m d] 28) = v at *
  obtain ⟨x0, x1, x2, x3, x4, x5, x6, x7, x8, x9, x10, x11, y0, y1, y2, y3, y4, y5, y6, y7, y8, y9, y10⟩ := id C
  go_wp2_with fail
  refine (C1 _).mono ?_
  rintro e v1 ⟨L, rfl, hL, hb⟩
  clear x0 x1 x2 x3 x4 x5 x6 x7 x8 x9 x10 x11 y0 y1 y2 y3 y4 y5 y6 y7 y8 y9 y10
  replace B := B.trans (hb.mono B.size)
  clear hb C C1
  by_cases hz : L < 0
  · go_wp2_with fail
    go_ret
    exact ⟨-1, rfl, fun h => absurd h (by decide), B⟩
  · have HL : Hid (0 ≤ L → m ≤ 1048576 ∧ L ≤ 1048576) := hL
    clear hL
    go_wp2_with fail
    go_ret
    exact ⟨L, rfl, HL.out, B⟩
set_option maxRecDepth 100000 in
set_option maxHeartbeats 8000000 in
theorem eqCfg_same (dn dd li le pt ag ke lg s g : Int) (p : Option Addr) (m d : Nat) (PM : Nat → SlT) (p' : Option Addr) (d' : Nat) (w : World) (hm : m ≤ maxLen) (h : SrcC w p (m * 2) (MFSlot PM)) (h' : SrcC w p' (m * 2) (MFSlot PM)) :
    Calls Tryz.prog 15 #[.agg #[.int .i64 dn, .int .i64 dd, .int .i64 li, .int .i64 le, .int .i64 pt, .int .i64 ag, .int .i64 ke, .int .i64 lg, .int .i64 s, .int .i64 g, .slice p m d], .agg #[.int .i64 dn, .int .i64 dd, .int .i64 li, .int .i64 le, .int .i64 pt, .int .i64 ag, .int .i64 ke, .int .i64 lg, .int .i64 s, .int .i64 g, .slice p' m d']] w fun e w' => e = .returned (.bool true) ∧ Below w.heap.size w w' := by
  have A0 := Below.nw w (.cells #[.int .i64 dn, .int .i64 dd, .int .i64 li, .int .i64 le, .int .i64 pt, .int .i64 ag, .int .i64 ke, .int .i64 lg, .int .i64 s, .int .i64 g, .slice p m d] 67)
  have A1 := Below.nw (w.alloc (.cells #[.int .i64 dn, .int .i64 dd, .int .i64 li, .int .i64 le, .int .i64 pt, .int .i64 ag, .int .i64 ke, .int .i64 lg, .int .i64 s, .int .i64 g, .slice p m d] 67)) (.cells #[.int .i64 dn, .int .i64 dd, .int .i64 li, .int .i64 le, .int .i64 pt, .int .i64 ag, .int .i64 ke, .int .i64 lg, .int .i64 s, .int .i64 g, .slice p' m d'] 67)
  have C := (Cx11.new w (.int .i64 dn) (.int .i64 dd) (.int .i64 li) (.int .i64 le) (.int .i64 pt) (.int .i64 ag) (.int .i64 ke) (.int .i64 lg) (.int .i64 s) (.int .i64 g) (.slice p m d) 67).below A1
  have X := Cx11.new (w.alloc (.cells #[.int .i64 dn, .int .i64 dd, .int .i64 li, .int .i64 le, .int .i64 pt, .int .i64 ag, .int .i64 ke, .int .i64 lg, .int .i64 s, .int .i64 g, .slice p m d] 67)) (.int .i64 dn) (.int .i64 dd) (.int .i64 li) (.int .i64 le) (.int .i64 pt) (.int .i64 ag) (.int .i64 ke) (.int .i64 lg) (.int .i64 s) (.int .i64 g) (.slice p' m d') 67
  have B := A0.trans (A1.mono A0.size)
  simp only [World.size_alloc] at X
  clear A0 A1
  have C1 := fun w' => eqDrift_same dn dd w'
  have C2 := fun (w' : World) (hb : Below w.heap.size w w') => eqPlan_same s g p p' m d d' PM w' hm (h.below hb) (h'.below hb)
  clear h h'
  go_enter Tryz.func15, Tryz.ntmps15
  go_upto_region 1 with fail
  generalize (w.alloc (.cells #[.int .i64 dn, .int .i64 dd, .int .i64 li, .int .i64 le, .int .i64 pt, .int .i64 ag, .int .i64 ke, .int .i64 lg, .int .i64 s, .int .i64 g, .slice p m d] 67)).alloc (.cells #[.int .i64 dn, .int .i64 dd, .int .i64 li, .int .i64 le, .int .i64 pt, .int .i64 ag, .int .i64 ke, .int .i64 lg, .int .i64 s, .int .i64 g, .slice p' m d'] 67) = v at *
  obtain ⟨x0, x1, x2, x3, x4, x5, x6, x7, x8, x9, x10, x11, y0, y1, y2, y3, y4, y5, y6, y7, y8, y9, y10⟩ := id C
  obtain ⟨u0, u1, u2, u3, u4, u5, u6, u7, u8, u9, u10, u11, t0, t1, t2, t3, t4, t5, t6, t7, t8, t9, t10⟩ := id X
  go_wp2_with fail
  refine (C1 _).mono ?_
  rintro e v1 ⟨rfl, hb⟩
  clear x0 x1 x2 x3 x4 x5 x6 x7 x8 x9 x10 x11 y0 y1 y2 y3 y4 y5 y6 y7 y8 y9 y10
  clear u0 u1 u2 u3 u4 u5 u6 u7 u8 u9 u10 u11 t0 t1 t2 t3 t4 t5 t6 t7 t8 t9 t10
  replace B := B.trans (hb.mono B.size)
  replace C := C.below hb
  replace X := X.below hb
  clear hb C1
  obtain ⟨x0, x1, x2, x3, x4, x5, x6, x7, x8, x9, x10, x11, y0, y1, y2, y3, y4, y5, y6, y7, y8, y9, y10⟩ := id C
  obtain ⟨u0, u1, u2, u3, u4, u5, u6, u7, u8, u9, u10, u11, t0, t1, t2, t3, t4, t5, t6, t7, t8, t9, t10⟩ := id X
  have e1 : (li != li) = false := by simp
  have e2 : (le != le) = false := by simp
  have e3 : (pt != pt) = false := by simp
  have e4 : (ag != ag) = false := by simp
  have e5 : (ke != ke) = false := by simp
  have e6 : (lg != lg) = false := by simp
  go_wp2_with fail
  refine (C2 _ B).mono ?_
  rintro e v2 ⟨rfl, hb⟩
  clear x0 x1 x2 x3 x4 x5 x6 x7 x8 x9 x10 x11 y0 y1 y2 y3 y4 y5 y6 y7 y8 y9 y10
  clear u0 u1 u2 u3 u4 u5 u6 u7 u8 u9 u10 u11 t0 t1 t2 t3 t4 t5 t6 t7 t8 t9 t10
  replace B := B.trans (hb.mono B.size)
  clear hb C X C2
  go_wp2_with fail
  go_ret
  exact ⟨rfl, B⟩
end Go.Proofs.YtiecdkmnjdpgfaaGreat
namespace Go.Proofs.YtiecdkmnjdpgfaaGreat
open Go.RowKit
set_option linter.unusedVariables false
structure CfX where
  dn : Int
  dd : Int
  li : Int
  le : Int
  pt : Int
  ag : Int
  ke : Int
  lg : Int
  s : Int
  g : Int
  PM : Nat → SlT
  m : Nat
def cfV (y : CfX) (p : Option Addr) (d : Nat) : Array Value :=
  #[.int .i64 y.dn, .int .i64 y.dd, .int .i64 y.li, .int .i64 y.le, .int .i64 y.pt, .int .i64 y.ag, .int .i64 y.ke, .int .i64 y.lg, .int .i64 y.s, .int .i64 y.g, .slice p y.m d]
def CfS (w : World) (A : Array Value) (y : CfX) : Prop := ∃ p d, A = cfV y p d ∧ y.m ≤ maxLen ∧ RwO w p y.m d 2 (MFSlot y.PM)
theorem CfS.below {w w' : World} {A : Array Value} {y : CfX} (h : CfS w A y) (hb : Below w.heap.size w w') : CfS w' A y := by
  obtain ⟨p, d, e, hl, h1⟩ := h
  exact ⟨p, d, e, hl, h1.below hb⟩
theorem CfS.size {w : World} {A : Array Value} {y : CfX} (h : CfS w A y) : A.size = 11 := by
  obtain ⟨p, d, e, _⟩ := h
  rw [e]; rfl
theorem CfS.one {w : World} {A : Array Value} {y : CfX} (h : CfS w A y) : ∀ u ∈ A.toList, u.oneCell' = true := by
  obtain ⟨p, d, e, _⟩ := h
  rw [e]
  intro u hu
  simp only [cfV, List.mem_cons, List.not_mem_nil, or_false] at hu
  rcases hu with h | h | h | h | h | h | h | h | h | h | h <;> (subst h; rfl)
def CfO (w : World) (l u : Nat) (A : Array Value) (y : CfX) : Prop := ∃ p d, A = cfV y p d ∧ y.m ≤ 1048576 ∧ Rwo w l u 212 2 p y.m d (MFSlot y.PM)
theorem CfO.below {w w' : World} {l u : Nat} {A : Array Value} {y : CfX} (h : CfO w l u A y) (hb : Below w.heap.size w w') : CfO w' l u A y := by
  obtain ⟨p, d, e, hl, h1⟩ := h
  exact ⟨p, d, e, hl, h1.below hb⟩
theorem CfO.btw {w w' : World} {l u l' u' : Nat} {A : Array Value} {y : CfX} (h : CfO w l u A y) (hb : Btw l' u' w w') (ho : u ≤ l' ∨ u' ≤ l) : CfO w' l u A y := by
  obtain ⟨p, d, e, hl, h1⟩ := h
  exact ⟨p, d, e, hl, h1.btw hb ho⟩
theorem CfO.src {w : World} {l u : Nat} {A : Array Value} {y : CfX} (h : CfO w l u A y) : CfS w A y := by
  obtain ⟨p, d, e, hl, h1⟩ := h
  exact ⟨p, d, e, by unfold maxLen; omega, h1.rw⟩
theorem CfO.size {w : World} {l u : Nat} {A : Array Value} {y : CfX} (h : CfO w l u A y) : A.size = 11 := h.src.size
theorem CfO.one {w : World} {l u : Nat} {A : Array Value} {y : CfX} (h : CfO w l u A y) : ∀ v ∈ A.toList, v.oneCell' = true := h.src.one
theorem eqCfgX (A A' : Array Value) (y : CfX) (w : World) (h : CfS w A y) (h' : CfS w A' y) :
    Calls Tryz.prog 15 #[.agg A, .agg A'] w fun e w' => e = .returned (.bool true) ∧ Below w.heap.size w w' := by
  obtain ⟨p, d, rfl, hl, h1⟩ := h
  obtain ⟨p', d', rfl, hl', h1'⟩ := h'
  exact eqCfg_same y.dn y.dd y.li y.le y.pt y.ag y.ke y.lg y.s y.g p y.m d y.PM p' d' w hl h1.src h1'.src
def cokX (y : CfX) : Bool := cfB y.dn y.dd y.li y.le y.pt y.ag y.ke y.lg y.s y.g y.PM y.m
theorem specCfgOkX (A : Array Value) (y : CfX) (w : World) (h : CfS w A y) :
    Calls Tryz.prog 82 #[.agg A] w fun e w' => e = .returned (.bool (cokX y)) ∧ Below w.heap.size w w' := by
  obtain ⟨p, d, rfl, hl, h1⟩ := h
  exact specCfgOk_any y.dn y.dd y.li y.le y.pt y.ag y.ke y.lg y.s y.g p y.m d y.PM w hl h1.src
end Go.Proofs.YtiecdkmnjdpgfaaGreat
namespace Go.Proofs.YtiecdkmnjdpgfaaGreat
open Go.RowKit
set_option linter.unusedVariables false
theorem markSlotS_ownZ (a : Option Addr) (n c base : Nat) (q0 : Int) (xs : List Value) (w : World) (hn : n ≤ 1048576) (hq : 0 < q0) (hq1 : q0 ≤ 1073741824) (h : w.ownsRow base 212 2 (.slice a n c) n xs) :
    Calls Tryz.prog 103 #[.slice a n c, .int .i64 q0] w fun e w' => e = .returned (.int .i64 (q0 + (n : Int) * 2)) ∧ w.grownBy w' (Value.slice a n c).ownBlock := by
  rcases h.2 with ⟨he, h0⟩ | ⟨g, cap, cur, he, _⟩
  · simp at he
    obtain ⟨rfl, rfl, rfl⟩ := he
    exact (markSlotS_zero none 0 q0 w).mono fun e w' ⟨h1, h2⟩ => ⟨by rw [h1]; simp, h2 ▸ bel_grownZ (Below.refl _ _)⟩
  · simp at he
    obtain ⟨rfl, rfl⟩ := he
    obtain ⟨h1, h2, _, h3⟩ := ownF_row (mkSlot q0) h
    exact (markSlotS_row g (c * 2) n c q0 w hn hq hq1 (Nat.mul_le_mul_right _ h2) h3).mono fun e w' ⟨r1, _, r3⟩ => ⟨r1, r3.grK⟩
set_option maxHeartbeats 2000000 in
theorem markPlan_q (s g : Int) (a : Option Addr) (n c base : Nat) (q0 : Int) (xs : List Value) (w : World) (hn : n ≤ 1048576) (hq : 0 < q0) (hq1 : q0 ≤ 1073741824) (h : w.ownsRow base 212 2 (.slice a n c) n xs) :
    Calls Tryz.prog 58 #[.agg #[.int .i64 s, .int .i64 g, .slice a n c], .int .i64 q0] w fun e w' => e = .returned (.int .i64 (q0 + (n : Int) * 2)) ∧ w.grownBy w' (Value.slice a n c).ownBlock := by
  have A0 := Below.nw w (.cells #[.int .i64 s, .int .i64 g, .slice a n c] 65)
  have C := markSlotS_ownZ a n c base q0 xs _ hn hq hq1 (World.ownsRow.alloc h (.cells #[.int .i64 s, .int .i64 g, .slice a n c] 65))
  clear h
  go_enter Tryz.func58, Tryz.ntmps58
  go_wp2_with fail
  refine C.mono ?_
  rintro e w1 ⟨rfl, hg⟩
  have G := grownZ A0 hg
  go_wp2_with fail
  go_ret
  exact ⟨rfl, G⟩
attribute [-go_sem] loadCells in
set_option maxRecDepth 100000 in
set_option maxHeartbeats 4000000 in
theorem markCfgX (A : Array Value) (y : CfX) (q : Int) (l u : Nat) (w : World) (h : CfO w l u A y) (hq : 0 < q) (hq1 : q ≤ 1048576) :
    Calls Tryz.prog 16 #[.agg A, .int .i64 q] w fun e w' => e = .returned (.int .i64 (q + (y.m : Int) * 2)) ∧ y.m ≤ 1048576 ∧ Btw l u w w' := by
  obtain ⟨p, d, rfl, hl, r1⟩ := h
  have B := Below.nw w (.cells (cfV y p d) 67)
  have N := Bo.new w (cfV y p d) 67
  have l1 : ∀ g, (Value.slice p y.m d).ownBlock = some g → l ≤ g ∧ g < u ∧ g < w.heap.size := fun g hg => r1.lt hg
  have p1 := r1.below B
  clear r1
  have T0 : Btw l u w _ := Btw.ofBelow B
  go_enter Tryz.func16, Tryz.ntmps16
  go_upto_region 1 with fail
  generalize w.alloc (.cells (cfV y p d) 67) = v at *
  have hL : (loadCells ⟨w.heap.size, 8, none⟩ 3).run Tryz.prog v = .ok #[.int .i64 y.s, .int .i64 y.g, .slice p y.m d] v := N.loadAt (P := Tryz.prog) 8 3 (show 8 + 3 ≤ 11 by decide)
  go_wp2_with (rw [hL])
  refine (markPlan_q y.s y.g p y.m d l q _ v hl hq (by omega) p1.1).mono ?_
  rintro e v1 ⟨rfl, g1⟩
  clear hL p1
  replace T0 := T0.trans (Btw.ofGrown g1 fun g e => ⟨(l1 g e).1, (l1 g e).2.1⟩)
  clear g1 B N
  go_wp2_with fail
  go_ret
  exact ⟨rfl, hl, T0⟩
end Go.Proofs.YtiecdkmnjdpgfaaGreat
