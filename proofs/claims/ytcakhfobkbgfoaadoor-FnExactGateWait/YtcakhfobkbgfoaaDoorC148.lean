/- The gate in the program: its faults, its place, what it answers; GateWait. -/
import Derived.Test.YtcakhfobkbgfoaaDoorC146
import Derived.Test.YtcakhfobkbgfoaaDoorC144
import Derived.Test.YtcakhfobkbgfoaaDoorB141
import Derived.Test.YtcakhfobkbgfoaaDoorB146
import Derived.Test.YtcakhfobkbgfoaaDoorQ2b
import Derived.Test.YtcakhfobkbgfoaaDoorG8
import Derived.Deep.RegionHeld3
import Derived.Deep.DeepCutAuto
import Derived.WalkKit
import Derived.WalkSpells
import Derived.WalkLawsBesides
import Derived.Deep.RegionHeld
namespace Go.Proofs.YtcakhfobkbgfoaaDoor
open Go.RowKit
set_option linter.unusedVariables false
def Tx7 (w : World) (k : Nat) (u0 u1 u2 u3 u4 u5 u6 : Value) : Prop := k < w.heap.size ∧ w.cell? ⟨k, 0, none⟩ = some u0 ∧ w.cell? ⟨k, 1, none⟩ = some u1 ∧ w.cell? ⟨k, 2, none⟩ = some u2 ∧ w.cell? ⟨k, 3, none⟩ = some u3 ∧ w.cell? ⟨k, 4, none⟩ = some u4 ∧ w.cell? ⟨k, 5, none⟩ = some u5 ∧ w.cell? ⟨k, 6, none⟩ = some u6 ∧ w.frozen? ⟨k, 0, none⟩ = false ∧ w.frozen? ⟨k, 1, none⟩ = false ∧ w.frozen? ⟨k, 2, none⟩ = false ∧ w.frozen? ⟨k, 3, none⟩ = false ∧ w.frozen? ⟨k, 4, none⟩ = false ∧ w.frozen? ⟨k, 5, none⟩ = false ∧ w.frozen? ⟨k, 6, none⟩ = false
theorem Tx7.belowB {k B : Nat} {w w' : World} {u0 u1 u2 u3 u4 u5 u6 : Value} (h : Tx7 w k u0 u1 u2 u3 u4 u5 u6) (hw : Below B w w') (hk : k < B) : Tx7 w' k u0 u1 u2 u3 u4 u5 u6 := by
  obtain ⟨h0, h1, h2, h3, h4, h5, h6, h7, f1, f2, f3, f4, f5, f6, f7⟩ := h
  exact ⟨Nat.lt_of_lt_of_le h0 hw.size, by rw [hw.cell (p := ⟨k, 0, none⟩) hk]; exact h1, by rw [hw.cell (p := ⟨k, 1, none⟩) hk]; exact h2, by rw [hw.cell (p := ⟨k, 2, none⟩) hk]; exact h3, by rw [hw.cell (p := ⟨k, 3, none⟩) hk]; exact h4, by rw [hw.cell (p := ⟨k, 4, none⟩) hk]; exact h5, by rw [hw.cell (p := ⟨k, 5, none⟩) hk]; exact h6, by rw [hw.cell (p := ⟨k, 6, none⟩) hk]; exact h7, by rw [hw.frozen (p := ⟨k, 0, none⟩) hk]; exact f1, by rw [hw.frozen (p := ⟨k, 1, none⟩) hk]; exact f2, by rw [hw.frozen (p := ⟨k, 2, none⟩) hk]; exact f3, by rw [hw.frozen (p := ⟨k, 3, none⟩) hk]; exact f4, by rw [hw.frozen (p := ⟨k, 4, none⟩) hk]; exact f5, by rw [hw.frozen (p := ⟨k, 5, none⟩) hk]; exact f6, by rw [hw.frozen (p := ⟨k, 6, none⟩) hk]; exact f7⟩
theorem Tx7.below {k : Nat} {w w' : World} {u0 u1 u2 u3 u4 u5 u6 : Value} (h : Tx7 w k u0 u1 u2 u3 u4 u5 u6) (hw : Below w.heap.size w w') : Tx7 w' k u0 u1 u2 u3 u4 u5 u6 := h.belowB hw h.1
theorem Tx7.but {w w' : World} {k q : Nat} {u0 u1 u2 u3 u4 u5 u6 : Value} (h : Tx7 w k u0 u1 u2 u3 u4 u5 u6) (hb : But q w w') (hq : k ≠ q) : Tx7 w' k u0 u1 u2 u3 u4 u5 u6 := by
  obtain ⟨h0, h1, h2, h3, h4, h5, h6, h7, f1, f2, f3, f4, f5, f6, f7⟩ := h
  exact ⟨Nat.lt_of_lt_of_le h0 hb.2.2.2.1, by rw [hb.cell h0 hq]; exact h1, by rw [hb.cell h0 hq]; exact h2, by rw [hb.cell h0 hq]; exact h3, by rw [hb.cell h0 hq]; exact h4, by rw [hb.cell h0 hq]; exact h5, by rw [hb.cell h0 hq]; exact h6, by rw [hb.cell h0 hq]; exact h7, by rw [hb.frozen h0 hq]; exact f1, by rw [hb.frozen h0 hq]; exact f2, by rw [hb.frozen h0 hq]; exact f3, by rw [hb.frozen h0 hq]; exact f4, by rw [hb.frozen h0 hq]; exact f5, by rw [hb.frozen h0 hq]; exact f6, by rw [hb.frozen h0 hq]; exact f7⟩
theorem Tx7.alloc {k : Nat} {w : World} {u0 u1 u2 u3 u4 u5 u6 : Value} (h : Tx7 w k u0 u1 u2 u3 u4 u5 u6) (o : Obj) : Tx7 (w.alloc o) k u0 u1 u2 u3 u4 u5 u6 := h.below ((Below.refl _ _).alloc (Nat.le_refl _) _)
theorem Tx7.new (w : World) (u0 u1 u2 u3 u4 u5 u6 : Value) (T : TypeId) : Tx7 (w.alloc (.cells #[u0, u1, u2, u3, u4, u5, u6] T)) w.heap.size u0 u1 u2 u3 u4 u5 u6 := ⟨by simp, by simp, by simp, by simp, by simp, by simp, by simp, by simp, by simp, by simp, by simp, by simp, by simp, by simp, by simp⟩
theorem Tx7.drew {k : Nat} {w : World} {u0 u1 u2 u3 u4 u5 u6 : Value} (h : Tx7 w k u0 u1 u2 u3 u4 u5 u6) : Tx7 w.drew k u0 u1 u2 u3 u4 u5 u6 := h
theorem Tx7.setO {k j : Nat} {w : World} {u0 u1 u2 u3 u4 u5 u6 : Value} (h : Tx7 w k u0 u1 u2 u3 u4 u5 u6) (hk : j ≠ k) (o : Nat) (u : Value) : Tx7 (w.setCell ⟨j, o, none⟩ u) k u0 u1 u2 u3 u4 u5 u6 := by
  have hne : ∀ q, (⟨j, o, none⟩ : Addr) ≠ ⟨k, q, none⟩ := fun q e => hk (congrArg Addr.block e)
  obtain ⟨h0, h1, h2, h3, h4, h5, h6, h7, f1, f2, f3, f4, f5, f6, f7⟩ := h
  exact ⟨by simpa using h0, by rw [World.cell?_setCell_other _ _ _ _ (hne _)]; exact h1, by rw [World.cell?_setCell_other _ _ _ _ (hne _)]; exact h2, by rw [World.cell?_setCell_other _ _ _ _ (hne _)]; exact h3, by rw [World.cell?_setCell_other _ _ _ _ (hne _)]; exact h4, by rw [World.cell?_setCell_other _ _ _ _ (hne _)]; exact h5, by rw [World.cell?_setCell_other _ _ _ _ (hne _)]; exact h6, by rw [World.cell?_setCell_other _ _ _ _ (hne _)]; exact h7, by simpa using f1, by simpa using f2, by simpa using f3, by simpa using f4, by simpa using f5, by simpa using f6, by simpa using f7⟩
theorem Tx7.set0 {k : Nat} {w : World} {u0 u1 u2 u3 u4 u5 u6 : Value} (h : Tx7 w k u0 u1 u2 u3 u4 u5 u6) (x : Value) : Tx7 (w.setCell ⟨k, 0, none⟩ x) k x u1 u2 u3 u4 u5 u6 := by
  obtain ⟨h0, h1, h2, h3, h4, h5, h6, h7, f1, f2, f3, f4, f5, f6, f7⟩ := h
  exact ⟨by simpa using h0, World.cell?_setCell_same _ _ _ h1, (World.cell?_setCell_other _ _ _ _ (by simp)).trans h2, (World.cell?_setCell_other _ _ _ _ (by simp)).trans h3, (World.cell?_setCell_other _ _ _ _ (by simp)).trans h4, (World.cell?_setCell_other _ _ _ _ (by simp)).trans h5, (World.cell?_setCell_other _ _ _ _ (by simp)).trans h6, (World.cell?_setCell_other _ _ _ _ (by simp)).trans h7, by simpa using f1, by simpa using f2, by simpa using f3, by simpa using f4, by simpa using f5, by simpa using f6, by simpa using f7⟩
theorem Tx7.set1 {k : Nat} {w : World} {u0 u1 u2 u3 u4 u5 u6 : Value} (h : Tx7 w k u0 u1 u2 u3 u4 u5 u6) (x : Value) : Tx7 (w.setCell ⟨k, 1, none⟩ x) k u0 x u2 u3 u4 u5 u6 := by
  obtain ⟨h0, h1, h2, h3, h4, h5, h6, h7, f1, f2, f3, f4, f5, f6, f7⟩ := h
  exact ⟨by simpa using h0, (World.cell?_setCell_other _ _ _ _ (by simp)).trans h1, World.cell?_setCell_same _ _ _ h2, (World.cell?_setCell_other _ _ _ _ (by simp)).trans h3, (World.cell?_setCell_other _ _ _ _ (by simp)).trans h4, (World.cell?_setCell_other _ _ _ _ (by simp)).trans h5, (World.cell?_setCell_other _ _ _ _ (by simp)).trans h6, (World.cell?_setCell_other _ _ _ _ (by simp)).trans h7, by simpa using f1, by simpa using f2, by simpa using f3, by simpa using f4, by simpa using f5, by simpa using f6, by simpa using f7⟩
theorem Tx7.set2 {k : Nat} {w : World} {u0 u1 u2 u3 u4 u5 u6 : Value} (h : Tx7 w k u0 u1 u2 u3 u4 u5 u6) (x : Value) : Tx7 (w.setCell ⟨k, 2, none⟩ x) k u0 u1 x u3 u4 u5 u6 := by
  obtain ⟨h0, h1, h2, h3, h4, h5, h6, h7, f1, f2, f3, f4, f5, f6, f7⟩ := h
  exact ⟨by simpa using h0, (World.cell?_setCell_other _ _ _ _ (by simp)).trans h1, (World.cell?_setCell_other _ _ _ _ (by simp)).trans h2, World.cell?_setCell_same _ _ _ h3, (World.cell?_setCell_other _ _ _ _ (by simp)).trans h4, (World.cell?_setCell_other _ _ _ _ (by simp)).trans h5, (World.cell?_setCell_other _ _ _ _ (by simp)).trans h6, (World.cell?_setCell_other _ _ _ _ (by simp)).trans h7, by simpa using f1, by simpa using f2, by simpa using f3, by simpa using f4, by simpa using f5, by simpa using f6, by simpa using f7⟩
theorem Tx7.set3 {k : Nat} {w : World} {u0 u1 u2 u3 u4 u5 u6 : Value} (h : Tx7 w k u0 u1 u2 u3 u4 u5 u6) (x : Value) : Tx7 (w.setCell ⟨k, 3, none⟩ x) k u0 u1 u2 x u4 u5 u6 := by
  obtain ⟨h0, h1, h2, h3, h4, h5, h6, h7, f1, f2, f3, f4, f5, f6, f7⟩ := h
  exact ⟨by simpa using h0, (World.cell?_setCell_other _ _ _ _ (by simp)).trans h1, (World.cell?_setCell_other _ _ _ _ (by simp)).trans h2, (World.cell?_setCell_other _ _ _ _ (by simp)).trans h3, World.cell?_setCell_same _ _ _ h4, (World.cell?_setCell_other _ _ _ _ (by simp)).trans h5, (World.cell?_setCell_other _ _ _ _ (by simp)).trans h6, (World.cell?_setCell_other _ _ _ _ (by simp)).trans h7, by simpa using f1, by simpa using f2, by simpa using f3, by simpa using f4, by simpa using f5, by simpa using f6, by simpa using f7⟩
theorem Tx7.set4 {k : Nat} {w : World} {u0 u1 u2 u3 u4 u5 u6 : Value} (h : Tx7 w k u0 u1 u2 u3 u4 u5 u6) (x : Value) : Tx7 (w.setCell ⟨k, 4, none⟩ x) k u0 u1 u2 u3 x u5 u6 := by
  obtain ⟨h0, h1, h2, h3, h4, h5, h6, h7, f1, f2, f3, f4, f5, f6, f7⟩ := h
  exact ⟨by simpa using h0, (World.cell?_setCell_other _ _ _ _ (by simp)).trans h1, (World.cell?_setCell_other _ _ _ _ (by simp)).trans h2, (World.cell?_setCell_other _ _ _ _ (by simp)).trans h3, (World.cell?_setCell_other _ _ _ _ (by simp)).trans h4, World.cell?_setCell_same _ _ _ h5, (World.cell?_setCell_other _ _ _ _ (by simp)).trans h6, (World.cell?_setCell_other _ _ _ _ (by simp)).trans h7, by simpa using f1, by simpa using f2, by simpa using f3, by simpa using f4, by simpa using f5, by simpa using f6, by simpa using f7⟩
theorem Tx7.set5 {k : Nat} {w : World} {u0 u1 u2 u3 u4 u5 u6 : Value} (h : Tx7 w k u0 u1 u2 u3 u4 u5 u6) (x : Value) : Tx7 (w.setCell ⟨k, 5, none⟩ x) k u0 u1 u2 u3 u4 x u6 := by
  obtain ⟨h0, h1, h2, h3, h4, h5, h6, h7, f1, f2, f3, f4, f5, f6, f7⟩ := h
  exact ⟨by simpa using h0, (World.cell?_setCell_other _ _ _ _ (by simp)).trans h1, (World.cell?_setCell_other _ _ _ _ (by simp)).trans h2, (World.cell?_setCell_other _ _ _ _ (by simp)).trans h3, (World.cell?_setCell_other _ _ _ _ (by simp)).trans h4, (World.cell?_setCell_other _ _ _ _ (by simp)).trans h5, World.cell?_setCell_same _ _ _ h6, (World.cell?_setCell_other _ _ _ _ (by simp)).trans h7, by simpa using f1, by simpa using f2, by simpa using f3, by simpa using f4, by simpa using f5, by simpa using f6, by simpa using f7⟩
theorem Tx7.set6 {k : Nat} {w : World} {u0 u1 u2 u3 u4 u5 u6 : Value} (h : Tx7 w k u0 u1 u2 u3 u4 u5 u6) (x : Value) : Tx7 (w.setCell ⟨k, 6, none⟩ x) k u0 u1 u2 u3 u4 u5 x := by
  obtain ⟨h0, h1, h2, h3, h4, h5, h6, h7, f1, f2, f3, f4, f5, f6, f7⟩ := h
  exact ⟨by simpa using h0, (World.cell?_setCell_other _ _ _ _ (by simp)).trans h1, (World.cell?_setCell_other _ _ _ _ (by simp)).trans h2, (World.cell?_setCell_other _ _ _ _ (by simp)).trans h3, (World.cell?_setCell_other _ _ _ _ (by simp)).trans h4, (World.cell?_setCell_other _ _ _ _ (by simp)).trans h5, (World.cell?_setCell_other _ _ _ _ (by simp)).trans h6, World.cell?_setCell_same _ _ _ h7, by simpa using f1, by simpa using f2, by simpa using f3, by simpa using f4, by simpa using f5, by simpa using f6, by simpa using f7⟩
def EW (w : World) : Prop := ErE w 1 ∧ ErE w 7 ∧ ErE w 8 ∧ ErE w 3 ∧ ErE w 4 ∧ ErE w 5 ∧ ErE w 2 ∧ ErE w 6
theorem EW.below {w w' : World} (h : EW w) (hb : Below w.heap.size w w') : EW w' := ⟨h.1.below hb, h.2.1.below hb, h.2.2.1.below hb, h.2.2.2.1.below hb, h.2.2.2.2.1.below hb, h.2.2.2.2.2.1.below hb, h.2.2.2.2.2.2.1.below hb, h.2.2.2.2.2.2.2.below hb⟩
theorem EW.es {w : World} (h : EW w) : ES w := ⟨h.1, h.2.1, h.2.2.1, h.2.2.2.2.2.2.1⟩
theorem EW.em {w : World} (h : EW w) : EM w := h.es.em
set_option maxRecDepth 100000 in
set_option maxHeartbeats 8000000 in
theorem gateFor_any (n d x s g : Int) (a : Option Addr) (m c : Nat) (o : Int) (w : World) :
    Calls Tryd.prog 46 #[.agg #[.int .i64 n, .int .i64 d], .int .i64 x, .agg #[.int .i64 s, .int .i64 g, .slice a m c], .int .i64 o] w fun e w' => e = .returned (.agg #[.int .i64 n, .int .i64 d, .int .i64 x, .int .i64 s, .int .i64 g, .slice a m c, .int .i64 o]) ∧ Below w.heap.size w w' := by
  have A0 := Below.nw w (.cells #[.int .i64 n, .int .i64 d] 27)
  have A1 := Below.nw (w.alloc (.cells #[.int .i64 n, .int .i64 d] 27)) (.cells #[.int .i64 s, .int .i64 g, .slice a m c] 30)
  have A2 := Below.nw ((w.alloc (.cells #[.int .i64 n, .int .i64 d] 27)).alloc (.cells #[.int .i64 s, .int .i64 g, .slice a m c] 30)) (.cells #[.int .i64 0, .int .i64 0, .int .i64 0, .int .i64 0, .int .i64 0, .slice none 0 0, .int .i64 0] 88)
  have D := ((Bx2.new w (.int .i64 n) (.int .i64 d) 27).below A1).below A2
  have N := (Tx3.new (w.alloc (.cells #[.int .i64 n, .int .i64 d] 27)) (.int .i64 s) (.int .i64 g) (.slice a m c) 30).below A2
  have K := Tx7.new ((w.alloc (.cells #[.int .i64 n, .int .i64 d] 27)).alloc (.cells #[.int .i64 s, .int .i64 g, .slice a m c] 30)) (.int .i64 0) (.int .i64 0) (.int .i64 0) (.int .i64 0) (.int .i64 0) (.slice none 0 0) (.int .i64 0) 88
  have B := (A0.trans (A1.mono A0.size)).trans (A2.mono (A0.trans (A1.mono A0.size)).size)
  simp only [World.size_alloc] at N K
  clear A0 A1 A2
  have HK : w.heap.size ≤ w.heap.size + 1 + 1 := by omega
  go_enter Tryd.func46, Tryd.ntmps46
  go_upto_region 1 with fail
  generalize ((w.alloc (.cells #[.int .i64 n, .int .i64 d] 27)).alloc (.cells #[.int .i64 s, .int .i64 g, .slice a m c] 30)).alloc (.cells #[.int .i64 0, .int .i64 0, .int .i64 0, .int .i64 0, .int .i64 0, .slice none 0 0, .int .i64 0] 88) = v at *
  generalize w.heap.size + 1 + 1 = jk at *
  generalize w.heap.size + 1 = jn at *
  obtain ⟨d0, d1, d2, d3, d4⟩ := id D
  obtain ⟨n0, n1, n2, n3, n4, n5, n6⟩ := id N
  obtain ⟨k0, k1, k2, k3, k4, k5, k6, k7, f1, f2, f3, f4, f5, f6, f7⟩ := id K
  go_wp2_with fail
  replace K := ((((((K.set0 (.int .i64 n)).set1 (.int .i64 d)).set2 (.int .i64 x)).set3 (.int .i64 s)).set4 (.int .i64 g)).set5 (.slice a m c)).set6 (.int .i64 o)
  replace B := ((((((B.setCell (p := ⟨jk, 0, none⟩) HK (.int .i64 n)).setCell (p := ⟨jk, 1, none⟩) HK (.int .i64 d)).setCell (p := ⟨jk, 2, none⟩) HK (.int .i64 x)).setCell (p := ⟨jk, 3, none⟩) HK (.int .i64 s)).setCell (p := ⟨jk, 4, none⟩) HK (.int .i64 g)).setCell (p := ⟨jk, 5, none⟩) HK (.slice a m c)).setCell (p := ⟨jk, 6, none⟩) HK (.int .i64 o)
  generalize ((((((v.setCell ⟨jk, 0, none⟩ (.int .i64 n)).setCell ⟨jk, 1, none⟩ (.int .i64 d)).setCell ⟨jk, 2, none⟩ (.int .i64 x)).setCell ⟨jk, 3, none⟩ (.int .i64 s)).setCell ⟨jk, 4, none⟩ (.int .i64 g)).setCell ⟨jk, 5, none⟩ (.slice a m c)).setCell ⟨jk, 6, none⟩ (.int .i64 o) = v2 at *
  clear k0 k1 k2 k3 k4 k5 k6 k7 f1 f2 f3 f4 f5 f6 f7 D N
  clear d0 d1 d2 d3 d4
  clear n0 n1 n2 n3 n4 n5 n6
  obtain ⟨k0, k1, k2, k3, k4, k5, k6, k7, f1, f2, f3, f4, f5, f6, f7⟩ := id K
  exact bodyPost_ret (v := (.agg #[.int .i64 n, .int .i64 d, .int .i64 x, .int .i64 s, .int .i64 g, .slice a m c, .int .i64 o])) (by simp (maxDischargeDepth := 6) [results, Tryd.results46, go_sem, *]) rfl ⟨rfl, B⟩
/- What the gate's faults come to. -/
theorem ga_iv {lo hi n d x : Int} {pl : Bool} {o : Int} (h : okI lo hi = false) : gaP true lo hi n d x pl o = false := by unfold gaP; rw [h]; rfl
theorem ga_pl {kn : Bool} {lo hi n d x : Int} {pl : Bool} {o : Int} (h : pl = false) : gaP kn lo hi n d x pl o = false := by unfold gaP; rw [h]; simp
theorem ga_nd {kn : Bool} {lo hi n d x : Int} {pl : Bool} {o : Int} (h : nodB o = false) : gaP kn lo hi n d x pl o = false := by unfold gaP; rw [h]; simp
theorem ga_fr {kn : Bool} {lo hi n d x : Int} {pl : Bool} {o : Int} (hk : (!kn || okI lo hi) = true) (h : pl = true) (h2 : nodB o = true) : gaP kn lo hi n d x pl o = frB n d x := by unfold gaP frB; rw [hk, h, h2]; simp
set_option maxRecDepth 100000 in
set_option maxHeartbeats 16000000 in
theorem gateFault_any (kn : Bool) (lo hi n d x s g : Int) (a : Option Addr) (m c : Nat) (M : Nat → SlT) (o : Int) (w : World) (E : EW w) (hm : m ≤ maxLen) (hs : SrcC w a (m * 2) (MFSlot M)) :
    Calls Tryd.prog 82 #[.agg #[.int .i64 n, .int .i64 d, .int .i64 x, .int .i64 s, .int .i64 g, .slice a m c, .int .i64 o], .agg #[.int .i64 lo, .int .i64 hi], .bool kn] w fun e w' => (∃ v, e = .returned v ∧ Fv (gaP kn lo hi n d x (plB s g M m) o) v) ∧ Below w.heap.size w w' := by
  have A0 := Below.nw w (.cells #[.int .i64 n, .int .i64 d, .int .i64 x, .int .i64 s, .int .i64 g, .slice a m c, .int .i64 o] 88)
  have A1 := Below.nw (w.alloc (.cells #[.int .i64 n, .int .i64 d, .int .i64 x, .int .i64 s, .int .i64 g, .slice a m c, .int .i64 o] 88)) (.cells #[.int .i64 lo, .int .i64 hi] 25)
  have G := (Tx7.new w (.int .i64 n) (.int .i64 d) (.int .i64 x) (.int .i64 s) (.int .i64 g) (.slice a m c) (.int .i64 o) 88).below A1
  have P := Bx2.new (w.alloc (.cells #[.int .i64 n, .int .i64 d, .int .i64 x, .int .i64 s, .int .i64 g, .slice a m c, .int .i64 o] 88)) (.int .i64 lo) (.int .i64 hi) 25
  have B := A0.trans (A1.mono A0.size)
  simp only [World.size_alloc] at P
  clear A0 A1
  have HS : Hid (SrcC w a (m * 2) (MFSlot M)) := hs
  clear hs
  have CI := fun w' => ok_any lo hi w'
  have CP := fun w' h => planOk_any s g a m c M w' hm h
  have CO := fun w' => isNode_any o w'
  have CF := fun w' E => outFault_any n d x w' E
  cases kn
  · clear CI
    cases h2 : plB s g M m
    · have HF : Hid (gaP false lo hi n d x false o = false) := ga_pl rfl
      rw [h2] at CP
      clear h2 CO CF
      go_enter Tryd.func82, Tryd.ntmps82; go_upto_region 1 with fail; generalize (w.alloc (.cells #[.int .i64 n, .int .i64 d, .int .i64 x, .int .i64 s, .int .i64 g, .slice a m c, .int .i64 o] 88)).alloc (.cells #[.int .i64 lo, .int .i64 hi] 25) = v at *; generalize w.heap.size + 1 = jp at *
      obtain ⟨p0, p1, p2, p3, p4⟩ := id P; obtain ⟨g0, g1, g2, g3, g4, g5, g6, g7, f1, f2, f3, f4, f5, f6, f7⟩ := id G; go_wp2_with fail; refine (CP _ (HS.out.below B)).mono ?_; rintro e v2 ⟨rfl, hb⟩; clear g0 g1 g2 g3 g4 g5 g6 g7 f1 f2 f3 f4 f5 f6 f7; clear p0 p1 p2 p3 p4; replace G := G.below hb; replace P := P.below hb; replace B := B.trans (hb.mono B.size); clear hb; clear CP
      obtain ⟨a1, q1⟩ := (E.2.2.2.1.below B).cell; go_wp2_with fail; go_ret; exact ⟨⟨_, rfl, fv_no HF.out a1⟩, B⟩
    cases h3 : nodB o
    · have HF : Hid (gaP false lo hi n d x true o = false) := ga_nd h3
      rw [h2] at CP
      rw [h3] at CO
      clear h2 h3 CF
      go_enter Tryd.func82, Tryd.ntmps82; go_upto_region 1 with fail; generalize (w.alloc (.cells #[.int .i64 n, .int .i64 d, .int .i64 x, .int .i64 s, .int .i64 g, .slice a m c, .int .i64 o] 88)).alloc (.cells #[.int .i64 lo, .int .i64 hi] 25) = v at *; generalize w.heap.size + 1 = jp at *
      obtain ⟨p0, p1, p2, p3, p4⟩ := id P; obtain ⟨g0, g1, g2, g3, g4, g5, g6, g7, f1, f2, f3, f4, f5, f6, f7⟩ := id G; go_wp2_with fail; refine (CP _ (HS.out.below B)).mono ?_; rintro e v2 ⟨rfl, hb⟩; clear g0 g1 g2 g3 g4 g5 g6 g7 f1 f2 f3 f4 f5 f6 f7; clear p0 p1 p2 p3 p4; replace G := G.below hb; replace P := P.below hb; replace B := B.trans (hb.mono B.size); clear hb; clear CP
      obtain ⟨g0, g1, g2, g3, g4, g5, g6, g7, f1, f2, f3, f4, f5, f6, f7⟩ := id G; go_wp2_with fail; refine (CO _).mono ?_; rintro e w' ⟨rfl, rfl⟩; clear g0 g1 g2 g3 g4 g5 g6 g7 f1 f2 f3 f4 f5 f6 f7; clear CO
      obtain ⟨a1, q1⟩ := (E.2.2.2.2.1.below B).cell; go_wp2_with fail; go_ret; exact ⟨⟨_, rfl, fv_no HF.out a1⟩, B⟩
    have HF : Hid (gaP false lo hi n d x true o = frB n d x) := ga_fr rfl rfl h3
    rw [h2] at CP
    rw [h3] at CO
    clear h2 h3
    go_enter Tryd.func82, Tryd.ntmps82; go_upto_region 1 with fail; generalize (w.alloc (.cells #[.int .i64 n, .int .i64 d, .int .i64 x, .int .i64 s, .int .i64 g, .slice a m c, .int .i64 o] 88)).alloc (.cells #[.int .i64 lo, .int .i64 hi] 25) = v at *; generalize w.heap.size + 1 = jp at *
    obtain ⟨p0, p1, p2, p3, p4⟩ := id P; obtain ⟨g0, g1, g2, g3, g4, g5, g6, g7, f1, f2, f3, f4, f5, f6, f7⟩ := id G; go_wp2_with fail; refine (CP _ (HS.out.below B)).mono ?_; rintro e v2 ⟨rfl, hb⟩; clear g0 g1 g2 g3 g4 g5 g6 g7 f1 f2 f3 f4 f5 f6 f7; clear p0 p1 p2 p3 p4; replace G := G.below hb; replace P := P.below hb; replace B := B.trans (hb.mono B.size); clear hb; clear CP
    obtain ⟨g0, g1, g2, g3, g4, g5, g6, g7, f1, f2, f3, f4, f5, f6, f7⟩ := id G; go_wp2_with fail; refine (CO _).mono ?_; rintro e w' ⟨rfl, rfl⟩; clear g0 g1 g2 g3 g4 g5 g6 g7 f1 f2 f3 f4 f5 f6 f7; clear CO
    obtain ⟨g0, g1, g2, g3, g4, g5, g6, g7, f1, f2, f3, f4, f5, f6, f7⟩ := id G; go_wp2_with fail; refine (CF _ (E.em.below B)).mono ?_; rintro e v4 ⟨⟨u, rfl, hv⟩, hb⟩; clear g0 g1 g2 g3 g4 g5 g6 g7 f1 f2 f3 f4 f5 f6 f7; replace G := G.below hb; replace P := P.below hb; replace B := B.trans (hb.mono B.size); clear hb; clear CF; go_wp2_with fail; go_ret; exact ⟨⟨_, rfl, by rw [HF.out]; exact hv⟩, B⟩
  · cases h1 : okI lo hi
    · have HF : Hid (gaP true lo hi n d x (plB s g M m) o = false) := ga_iv h1
      rw [h1] at CI
      clear h1 CP CO CF
      go_enter Tryd.func82, Tryd.ntmps82; go_upto_region 1 with fail; generalize (w.alloc (.cells #[.int .i64 n, .int .i64 d, .int .i64 x, .int .i64 s, .int .i64 g, .slice a m c, .int .i64 o] 88)).alloc (.cells #[.int .i64 lo, .int .i64 hi] 25) = v at *; generalize w.heap.size + 1 = jp at *
      obtain ⟨p0, p1, p2, p3, p4⟩ := id P; go_wp2_with fail; refine (CI _).mono ?_; rintro e v1 ⟨rfl, hb⟩; clear p0 p1 p2 p3 p4; replace G := G.below hb; replace P := P.below hb; replace B := B.trans (hb.mono B.size); clear hb; clear CI
      obtain ⟨a1, q1⟩ := (E.1.below B).cell; go_wp2_with fail; go_ret; exact ⟨⟨_, rfl, fv_no HF.out a1⟩, B⟩
    rw [h1] at CI
    cases h2 : plB s g M m
    · have HF : Hid (gaP true lo hi n d x false o = false) := ga_pl rfl
      rw [h2] at CP
      clear h1 h2 CO CF
      go_enter Tryd.func82, Tryd.ntmps82; go_upto_region 1 with fail; generalize (w.alloc (.cells #[.int .i64 n, .int .i64 d, .int .i64 x, .int .i64 s, .int .i64 g, .slice a m c, .int .i64 o] 88)).alloc (.cells #[.int .i64 lo, .int .i64 hi] 25) = v at *; generalize w.heap.size + 1 = jp at *
      obtain ⟨p0, p1, p2, p3, p4⟩ := id P; go_wp2_with fail; refine (CI _).mono ?_; rintro e v1 ⟨rfl, hb⟩; clear p0 p1 p2 p3 p4; replace G := G.below hb; replace P := P.below hb; replace B := B.trans (hb.mono B.size); clear hb; clear CI
      obtain ⟨g0, g1, g2, g3, g4, g5, g6, g7, f1, f2, f3, f4, f5, f6, f7⟩ := id G; go_wp2_with fail; refine (CP _ (HS.out.below B)).mono ?_; rintro e v2 ⟨rfl, hb⟩; clear g0 g1 g2 g3 g4 g5 g6 g7 f1 f2 f3 f4 f5 f6 f7; replace G := G.below hb; replace P := P.below hb; replace B := B.trans (hb.mono B.size); clear hb; clear CP
      obtain ⟨a1, q1⟩ := (E.2.2.2.1.below B).cell; go_wp2_with fail; go_ret; exact ⟨⟨_, rfl, fv_no HF.out a1⟩, B⟩
    cases h3 : nodB o
    · have HF : Hid (gaP true lo hi n d x true o = false) := ga_nd h3
      rw [h2] at CP
      rw [h3] at CO
      clear h1 h2 h3 CF
      go_enter Tryd.func82, Tryd.ntmps82; go_upto_region 1 with fail; generalize (w.alloc (.cells #[.int .i64 n, .int .i64 d, .int .i64 x, .int .i64 s, .int .i64 g, .slice a m c, .int .i64 o] 88)).alloc (.cells #[.int .i64 lo, .int .i64 hi] 25) = v at *; generalize w.heap.size + 1 = jp at *
      obtain ⟨p0, p1, p2, p3, p4⟩ := id P; go_wp2_with fail; refine (CI _).mono ?_; rintro e v1 ⟨rfl, hb⟩; clear p0 p1 p2 p3 p4; replace G := G.below hb; replace P := P.below hb; replace B := B.trans (hb.mono B.size); clear hb; clear CI
      obtain ⟨g0, g1, g2, g3, g4, g5, g6, g7, f1, f2, f3, f4, f5, f6, f7⟩ := id G; go_wp2_with fail; refine (CP _ (HS.out.below B)).mono ?_; rintro e v2 ⟨rfl, hb⟩; clear g0 g1 g2 g3 g4 g5 g6 g7 f1 f2 f3 f4 f5 f6 f7; replace G := G.below hb; replace P := P.below hb; replace B := B.trans (hb.mono B.size); clear hb; clear CP
      obtain ⟨g0, g1, g2, g3, g4, g5, g6, g7, f1, f2, f3, f4, f5, f6, f7⟩ := id G; go_wp2_with fail; refine (CO _).mono ?_; rintro e w' ⟨rfl, rfl⟩; clear g0 g1 g2 g3 g4 g5 g6 g7 f1 f2 f3 f4 f5 f6 f7; clear CO
      obtain ⟨a1, q1⟩ := (E.2.2.2.2.1.below B).cell; go_wp2_with fail; go_ret; exact ⟨⟨_, rfl, fv_no HF.out a1⟩, B⟩
    have HF : Hid (gaP true lo hi n d x true o = frB n d x) := ga_fr (by rw [h1]; rfl) rfl h3
    rw [h2] at CP
    rw [h3] at CO
    clear h1 h2 h3
    go_enter Tryd.func82, Tryd.ntmps82; go_upto_region 1 with fail; generalize (w.alloc (.cells #[.int .i64 n, .int .i64 d, .int .i64 x, .int .i64 s, .int .i64 g, .slice a m c, .int .i64 o] 88)).alloc (.cells #[.int .i64 lo, .int .i64 hi] 25) = v at *; generalize w.heap.size + 1 = jp at *
    obtain ⟨p0, p1, p2, p3, p4⟩ := id P; go_wp2_with fail; refine (CI _).mono ?_; rintro e v1 ⟨rfl, hb⟩; clear p0 p1 p2 p3 p4; replace G := G.below hb; replace P := P.below hb; replace B := B.trans (hb.mono B.size); clear hb; clear CI
    obtain ⟨g0, g1, g2, g3, g4, g5, g6, g7, f1, f2, f3, f4, f5, f6, f7⟩ := id G; go_wp2_with fail; refine (CP _ (HS.out.below B)).mono ?_; rintro e v2 ⟨rfl, hb⟩; clear g0 g1 g2 g3 g4 g5 g6 g7 f1 f2 f3 f4 f5 f6 f7; replace G := G.below hb; replace P := P.below hb; replace B := B.trans (hb.mono B.size); clear hb; clear CP
    obtain ⟨g0, g1, g2, g3, g4, g5, g6, g7, f1, f2, f3, f4, f5, f6, f7⟩ := id G; go_wp2_with fail; refine (CO _).mono ?_; rintro e w' ⟨rfl, rfl⟩; clear g0 g1 g2 g3 g4 g5 g6 g7 f1 f2 f3 f4 f5 f6 f7; clear CO
    obtain ⟨g0, g1, g2, g3, g4, g5, g6, g7, f1, f2, f3, f4, f5, f6, f7⟩ := id G; go_wp2_with fail; refine (CF _ (E.em.below B)).mono ?_; rintro e v4 ⟨⟨u, rfl, hv⟩, hb⟩; clear g0 g1 g2 g3 g4 g5 g6 g7 f1 f2 f3 f4 f5 f6 f7; replace G := G.below hb; replace P := P.below hb; replace B := B.trans (hb.mono B.size); clear hb; clear CF; go_wp2_with fail; go_ret; exact ⟨⟨_, rfl, by rw [HF.out]; exact hv⟩, B⟩
/- Where a frame goes: told, or not. -/
def plQ (kn : Bool) (lo hi n d x s g : Int) (M : Nat → SlT) (m : Nat) (o : Int) : Bool := kn && (gsB lo hi n d x && isB s g M m o (gsL lo hi n d x) (gsH lo hi n d x))
def plI (kn : Bool) (lo hi n d x s g : Int) (M : Nat → SlT) (m : Nat) (o : Int) : Int := sel (plQ kn lo hi n d x s g M m o) (isI s g M m o (gsL lo hi n d x) (gsH lo hi n d x))
def plK (kn : Bool) (lo hi n d x s g : Int) (M : Nat → SlT) (m : Nat) (o : Int) : Int := sel (plQ kn lo hi n d x s g M m o) (isK s g M m o (gsL lo hi n d x) (gsH lo hi n d x))
theorem pl_no {kn : Bool} {lo hi n d x s g : Int} {M : Nat → SlT} {m : Nat} {o : Int} (e : plQ kn lo hi n d x s g M m o = false) : plI kn lo hi n d x s g M m o = 0 ∧ plK kn lo hi n d x s g M m o = 0 := ⟨sel_f e _, sel_f e _⟩
theorem pl_yes {kn : Bool} {lo hi n d x s g : Int} {M : Nat → SlT} {m : Nat} {o : Int} (e : plQ kn lo hi n d x s g M m o = true) : plI kn lo hi n d x s g M m o = isI s g M m o (gsL lo hi n d x) (gsH lo hi n d x) ∧ plK kn lo hi n d x s g M m o = isK s g M m o (gsL lo hi n d x) (gsH lo hi n d x) := ⟨sel_t e _, sel_t e _⟩
set_option maxRecDepth 100000 in
set_option maxHeartbeats 16000000 in
theorem gatePlace_any (kn : Bool) (lo hi n d x s g : Int) (a : Option Addr) (m c : Nat) (M : Nat → SlT) (o : Int) (w : World) (E : EW w) (hm : m ≤ maxLen) (hs : SrcC w a (m * 2) (MFSlot M)) :
    Calls Tryd.prog 83 #[.agg #[.int .i64 n, .int .i64 d, .int .i64 x, .int .i64 s, .int .i64 g, .slice a m c, .int .i64 o], .agg #[.int .i64 lo, .int .i64 hi], .bool kn] w fun e w' => (∃ v, e = .returned (.tuple #[.int .i64 (plI kn lo hi n d x s g M m o), .int .i64 (plK kn lo hi n d x s g M m o), v]) ∧ Fv (plQ kn lo hi n d x s g M m o) v) ∧ Below w.heap.size w w' := by
  have A0 := Below.nw w (.cells #[.int .i64 n, .int .i64 d, .int .i64 x, .int .i64 s, .int .i64 g, .slice a m c, .int .i64 o] 88)
  have A1 := Below.nw (w.alloc (.cells #[.int .i64 n, .int .i64 d, .int .i64 x, .int .i64 s, .int .i64 g, .slice a m c, .int .i64 o] 88)) (.cells #[.int .i64 lo, .int .i64 hi] 25)
  have G := (Tx7.new w (.int .i64 n) (.int .i64 d) (.int .i64 x) (.int .i64 s) (.int .i64 g) (.slice a m c) (.int .i64 o) 88).below A1
  have P := Bx2.new (w.alloc (.cells #[.int .i64 n, .int .i64 d, .int .i64 x, .int .i64 s, .int .i64 g, .slice a m c, .int .i64 o] 88)) (.int .i64 lo) (.int .i64 hi) 25
  have B := A0.trans (A1.mono A0.size)
  simp only [World.size_alloc] at P
  clear A0 A1
  have HS : Hid (SrcC w a (m * 2) (MFSlot M)) := hs
  clear hs
  have CW := fun w' E => outSpan_any lo hi n d x w' E
  have CS := fun w' h => implInSlot_any s g a m c M o (gsL lo hi n d x) (gsH lo hi n d x) w' hm h
  have nN := neNo
  have nY := neYes
  cases kn
  · have HF : Hid (plQ false lo hi n d x s g M m o = false) := rfl
    rw [(pl_no HF.out).1, (pl_no HF.out).2]
    clear CW CS
    go_enter Tryd.func83, Tryd.ntmps83; go_upto_region 1 with fail; generalize (w.alloc (.cells #[.int .i64 n, .int .i64 d, .int .i64 x, .int .i64 s, .int .i64 g, .slice a m c, .int .i64 o] 88)).alloc (.cells #[.int .i64 lo, .int .i64 hi] 25) = v at *; generalize w.heap.size + 1 = jp at *
    obtain ⟨a1, q1⟩ := (E.2.2.2.2.2.1.below B).cell
    go_wp2_with fail
    go_quiet (fail)
    go_wp2_with fail
    exact bodyPost_ret (v := (.tuple #[.int .i64 0, .int .i64 0, (.iface 169 (.pointer (some a1)))])) (by simp (maxDischargeDepth := 6) [results, Tryd.results83, go_sem, *]) rfl ⟨⟨_, rfl, fv_no HF.out a1⟩, below_dq B nq⟩
  have HQ : Hid (plQ true lo hi n d x s g M m o = (gsB lo hi n d x && isB s g M m o (gsL lo hi n d x) (gsH lo hi n d x))) := by unfold Hid plQ; rfl
  have HN : Hid (plQ true lo hi n d x s g M m o = false → plI true lo hi n d x s g M m o = 0 ∧ plK true lo hi n d x s g M m o = 0) := pl_no
  have HY : Hid (plQ true lo hi n d x s g M m o = true → plI true lo hi n d x s g M m o = isI s g M m o (gsL lo hi n d x) (gsH lo hi n d x) ∧ plK true lo hi n d x s g M m o = isK s g M m o (gsL lo hi n d x) (gsH lo hi n d x)) := pl_yes
  generalize plQ true lo hi n d x s g M m o = QB at *
  generalize plI true lo hi n d x s g M m o = QI at *
  generalize plK true lo hi n d x s g M m o = QK at *
  generalize gsL lo hi n d x = X at *
  generalize gsH lo hi n d x = Y at *
  generalize gsB lo hi n d x = Q at *
  go_enter Tryd.func83, Tryd.ntmps83; go_upto_region 1 with fail; generalize (w.alloc (.cells #[.int .i64 n, .int .i64 d, .int .i64 x, .int .i64 s, .int .i64 g, .slice a m c, .int .i64 o] 88)).alloc (.cells #[.int .i64 lo, .int .i64 hi] 25) = v at *; generalize w.heap.size + 1 = jp at *
  obtain ⟨g0, g1, g2, g3, g4, g5, g6, g7, f1, f2, f3, f4, f5, f6, f7⟩ := id G
  obtain ⟨p0, p1, p2, p3, p4⟩ := id P
  go_wp2_with fail
  refine (CW _ (E.es.below B)).mono ?_
  rintro e v1 ⟨⟨u, rfl, hv⟩, hb⟩
  clear g0 g1 g2 g3 g4 g5 g6 g7 f1 f2 f3 f4 f5 f6 f7
  clear p0 p1 p2 p3 p4
  replace G := G.below hb; replace P := P.below hb; replace B := B.trans (hb.mono B.size); clear hb
  clear CW P
  have NL := Below.nw v1 (.cells #[.int .i64 X, .int .i64 Y] 25)
  have Z := Bx2.new v1 (.int .i64 X) (.int .i64 Y) 25
  cases Q
  · obtain ⟨a1, rfl⟩ := hv
    obtain rfl : QB = false := HQ.out
    obtain ⟨rfl, rfl⟩ := HN.out rfl
    clear HQ HN HY CS
    replace B := B.trans (NL.mono B.size)
    clear Z NL
    go_wp2_with fail
    exact bodyPost_ret (v := (.tuple #[.int .i64 0, .int .i64 0, (.iface 169 (.pointer (some a1)))])) (by simp (maxDischargeDepth := 6) [results, Tryd.results83, go_sem, *]) rfl ⟨⟨_, rfl, fv_no rfl a1⟩, B⟩
  obtain rfl := hv
  go_upto_region 4 with fail
  replace G := G.below NL
  replace B := B.trans (NL.mono B.size)
  clear NL
  generalize v1.alloc (.cells #[.int .i64 X, .int .i64 Y] 25) = v2 at *
  generalize v1.heap.size = jz at *
  obtain ⟨g0, g1, g2, g3, g4, g5, g6, g7, f1, f2, f3, f4, f5, f6, f7⟩ := id G
  obtain ⟨z0, z1, z2, z3, z4⟩ := id Z
  go_wp2_with fail
  refine (CS _ (HS.out.below B)).mono ?_
  rintro e v3 ⟨rfl, hb⟩
  clear g0 g1 g2 g3 g4 g5 g6 g7 f1 f2 f3 f4 f5 f6 f7
  clear z0 z1 z2 z3 z4
  replace B := B.trans (hb.mono B.size)
  clear hb CS Z G
  generalize isI s g M m o X Y = iI at *
  generalize isK s g M m o X Y = iK at *
  generalize isB s g M m o X Y = iB at *
  cases iB
  · obtain rfl : QB = false := HQ.out
    obtain ⟨rfl, rfl⟩ := HN.out rfl
    clear HQ HN HY
    obtain ⟨a1, q1⟩ := (E.2.2.2.2.2.2.2.below B).cell
    go_wp2_with fail
    go_quiet (fail)
    go_wp2_with fail
    exact bodyPost_ret (v := (.tuple #[.int .i64 0, .int .i64 0, (.iface 169 (.pointer (some a1)))])) (by simp (maxDischargeDepth := 6) [results, Tryd.results83, go_sem, *]) rfl ⟨⟨_, rfl, fv_no rfl a1⟩, below_dq B nq⟩
  · obtain rfl : QB = true := HQ.out
    obtain ⟨rfl, rfl⟩ := HY.out rfl
    clear HQ HN HY
    go_wp2_with fail
    exact bodyPost_ret (v := (.tuple #[.int .i64 QI, .int .i64 QK, .nilIface])) (by simp (maxDischargeDepth := 6) [results, Tryd.results83, go_sem, *]) rfl ⟨⟨_, rfl, fv_yes rfl⟩, B⟩
/- What the gate answers: no error where it goes, a refusal with the code that applies where it doesn't. -/
def Av (c : Int) (v : Value) : Prop := (c = 0 ∧ v = .nilIface) ∨ (¬ c = 0 ∧ ∃ a : Addr, v = .iface 92 (.agg #[.int .i64 c, .iface 169 (.pointer (some a))]))
set_option maxRecDepth 100000 in
set_option maxHeartbeats 16000000 in
theorem gateAsk_any (kn : Bool) (lo hi n d x s g : Int) (a : Option Addr) (m c : Nat) (M : Nat → SlT) (o : Int) (w : World) (E : EW w) (hm : m ≤ maxLen) (hs : SrcC w a (m * 2) (MFSlot M)) :
    Calls Tryd.prog 47 #[.agg #[.int .i64 n, .int .i64 d, .int .i64 x, .int .i64 s, .int .i64 g, .slice a m c, .int .i64 o], .agg #[.int .i64 lo, .int .i64 hi], .bool kn] w fun e w' => (∃ v, e = .returned (.tuple #[.int .i64 (gaI kn lo hi n d x s g M m o), .int .i64 (gaK kn lo hi n d x s g M m o), v]) ∧ Av (gaC kn lo hi n d x s g M m o) v) ∧ Below w.heap.size w w' := by
  have A0 := Below.nw w (.cells #[.int .i64 n, .int .i64 d, .int .i64 x, .int .i64 s, .int .i64 g, .slice a m c, .int .i64 o] 88)
  have A1 := Below.nw (w.alloc (.cells #[.int .i64 n, .int .i64 d, .int .i64 x, .int .i64 s, .int .i64 g, .slice a m c, .int .i64 o] 88)) (.cells #[.int .i64 lo, .int .i64 hi] 25)
  have G := (Tx7.new w (.int .i64 n) (.int .i64 d) (.int .i64 x) (.int .i64 s) (.int .i64 g) (.slice a m c) (.int .i64 o) 88).below A1
  have P := Bx2.new (w.alloc (.cells #[.int .i64 n, .int .i64 d, .int .i64 x, .int .i64 s, .int .i64 g, .slice a m c, .int .i64 o] 88)) (.int .i64 lo) (.int .i64 hi) 25
  have B := A0.trans (A1.mono A0.size)
  simp only [World.size_alloc] at P
  clear A0 A1
  have HS : Hid (SrcC w a (m * 2) (MFSlot M)) := hs
  clear hs
  have CF := fun w' E h => gateFault_any kn lo hi n d x s g a m c M o w' E hm h
  have CL := fun w' E h => gatePlace_any kn lo hi n d x s g a m c M o w' E hm h
  have nN := neNo
  have nY := neYes
  cases h1 : gaP kn lo hi n d x (plB s g M m) o
  · have HR : Hid (gaC kn lo hi n d x s g M m o = 1 ∧ gaI kn lo hi n d x s g M m o = 0 ∧ gaK kn lo hi n d x s g M m o = 0) := ga_bad h1
    rw [HR.out.2.1, HR.out.2.2]
    rw [h1] at CF
    clear h1 CL
    go_enter Tryd.func47, Tryd.ntmps47; go_upto_region 1 with fail; generalize (w.alloc (.cells #[.int .i64 n, .int .i64 d, .int .i64 x, .int .i64 s, .int .i64 g, .slice a m c, .int .i64 o] 88)).alloc (.cells #[.int .i64 lo, .int .i64 hi] 25) = v at *; generalize w.heap.size + 1 = jp at *
    obtain ⟨g0, g1, g2, g3, g4, g5, g6, g7, f1, f2, f3, f4, f5, f6, f7⟩ := id G
    obtain ⟨p0, p1, p2, p3, p4⟩ := id P
    go_wp2_with fail
    refine (CF _ (E.below B) (HS.out.below B)).mono ?_
    rintro e v1 ⟨⟨u, rfl, a1, rfl⟩, hb⟩
    clear g0 g1 g2 g3 g4 g5 g6 g7 f1 f2 f3 f4 f5 f6 f7
    clear p0 p1 p2 p3 p4
    replace G := G.below hb; replace P := P.below hb; replace B := B.trans (hb.mono B.size); clear hb
    go_wp2_with fail
    exact bodyPost_ret (v := (.tuple #[.int .i64 0, .int .i64 0, (.iface 92 (.agg #[.int .i64 1, .iface 169 (.pointer (some a1))]))])) (by simp (maxDischargeDepth := 6) [results, Tryd.results47, go_sem, *]) rfl ⟨⟨_, rfl, by rw [HR.out.1]; exact .inr ⟨by decide, a1, rfl⟩⟩, B⟩
  have hG : gaG kn lo hi n d x s g M m o = plQ kn lo hi n d x s g M m o := by unfold gaG plQ; rw [h1]; rfl
  rw [h1] at CF
  cases h2 : plQ kn lo hi n d x s g M m o
  · have HR : Hid (gaC kn lo hi n d x s g M m o = 2 ∧ gaI kn lo hi n d x s g M m o = 0 ∧ gaK kn lo hi n d x s g M m o = 0) := ga_un h1 (hG.trans h2)
    rw [HR.out.2.1, HR.out.2.2]
    rw [(pl_no h2).1, (pl_no h2).2, h2] at CL
    clear h1 h2 hG
    go_enter Tryd.func47, Tryd.ntmps47; go_upto_region 1 with fail; generalize (w.alloc (.cells #[.int .i64 n, .int .i64 d, .int .i64 x, .int .i64 s, .int .i64 g, .slice a m c, .int .i64 o] 88)).alloc (.cells #[.int .i64 lo, .int .i64 hi] 25) = v at *; generalize w.heap.size + 1 = jp at *
    obtain ⟨g0, g1, g2, g3, g4, g5, g6, g7, f1, f2, f3, f4, f5, f6, f7⟩ := id G
    obtain ⟨p0, p1, p2, p3, p4⟩ := id P
    go_wp2_with fail
    refine (CF _ (E.below B) (HS.out.below B)).mono ?_
    rintro e v1 ⟨⟨u, rfl, rfl⟩, hb⟩
    clear g0 g1 g2 g3 g4 g5 g6 g7 f1 f2 f3 f4 f5 f6 f7
    clear p0 p1 p2 p3 p4
    replace G := G.below hb; replace P := P.below hb; replace B := B.trans (hb.mono B.size); clear hb
    obtain ⟨g0, g1, g2, g3, g4, g5, g6, g7, f1, f2, f3, f4, f5, f6, f7⟩ := id G
    obtain ⟨p0, p1, p2, p3, p4⟩ := id P
    go_wp2_with fail
    refine (CL _ (E.below B) (HS.out.below B)).mono ?_
    rintro e v2 ⟨⟨u, rfl, a1, rfl⟩, hb⟩
    clear g0 g1 g2 g3 g4 g5 g6 g7 f1 f2 f3 f4 f5 f6 f7
    clear p0 p1 p2 p3 p4
    replace G := G.below hb; replace P := P.below hb; replace B := B.trans (hb.mono B.size); clear hb
    go_wp2_with fail
    exact bodyPost_ret (v := (.tuple #[.int .i64 0, .int .i64 0, (.iface 92 (.agg #[.int .i64 2, .iface 169 (.pointer (some a1))]))])) (by simp (maxDischargeDepth := 6) [results, Tryd.results47, go_sem, *]) rfl ⟨⟨_, rfl, by rw [HR.out.1]; exact .inr ⟨by decide, a1, rfl⟩⟩, B⟩
  have HR : Hid (gaC kn lo hi n d x s g M m o = 0 ∧ gaI kn lo hi n d x s g M m o = plI kn lo hi n d x s g M m o ∧ gaK kn lo hi n d x s g M m o = plK kn lo hi n d x s g M m o) := by
    obtain ⟨e1, e2, e3⟩ := ga_go (hG.trans h2)
    exact ⟨e1, e2.trans (pl_yes h2).1.symm, e3.trans (pl_yes h2).2.symm⟩
  rw [HR.out.2.1, HR.out.2.2]
  rw [h2] at CL
  clear h1 h2 hG
  generalize plI kn lo hi n d x s g M m o = QI at *
  generalize plK kn lo hi n d x s g M m o = QK at *
  go_enter Tryd.func47, Tryd.ntmps47; go_upto_region 1 with fail; generalize (w.alloc (.cells #[.int .i64 n, .int .i64 d, .int .i64 x, .int .i64 s, .int .i64 g, .slice a m c, .int .i64 o] 88)).alloc (.cells #[.int .i64 lo, .int .i64 hi] 25) = v at *; generalize w.heap.size + 1 = jp at *
  obtain ⟨g0, g1, g2, g3, g4, g5, g6, g7, f1, f2, f3, f4, f5, f6, f7⟩ := id G
  obtain ⟨p0, p1, p2, p3, p4⟩ := id P
  go_wp2_with fail
  refine (CF _ (E.below B) (HS.out.below B)).mono ?_
  rintro e v1 ⟨⟨u, rfl, rfl⟩, hb⟩
  clear g0 g1 g2 g3 g4 g5 g6 g7 f1 f2 f3 f4 f5 f6 f7
  clear p0 p1 p2 p3 p4
  replace G := G.below hb; replace P := P.below hb; replace B := B.trans (hb.mono B.size); clear hb
  obtain ⟨g0, g1, g2, g3, g4, g5, g6, g7, f1, f2, f3, f4, f5, f6, f7⟩ := id G
  obtain ⟨p0, p1, p2, p3, p4⟩ := id P
  go_wp2_with fail
  refine (CL _ (E.below B) (HS.out.below B)).mono ?_
  rintro e v2 ⟨⟨u, rfl, rfl⟩, hb⟩
  clear g0 g1 g2 g3 g4 g5 g6 g7 f1 f2 f3 f4 f5 f6 f7
  clear p0 p1 p2 p3 p4
  replace G := G.below hb; replace P := P.below hb; replace B := B.trans (hb.mono B.size); clear hb
  go_wp2_with fail
  exact bodyPost_ret (v := (.tuple #[.int .i64 QI, .int .i64 QK, .nilIface])) (by simp (maxDischargeDepth := 6) [results, Tryd.results47, go_sem, *]) rfl ⟨⟨_, rfl, by rw [HR.out.1]; exact .inl ⟨rfl, rfl⟩⟩, B⟩
theorem eqRf (v : Value) (w : World) : (binOp .eql 83 (.iface 92 v) .nilIface).run Tryd.prog w = .ok (.bool false) w := run_eql_iface_nil w 83 (by kernel_rfl) _ _
set_option maxRecDepth 100000 in
set_option maxHeartbeats 16000000 in
theorem goesAt_any (kn : Bool) (lo hi h n d x s g : Int) (a : Option Addr) (m c : Nat) (M : Nat → SlT) (o t : Int) (w : World) (E : EW w) (hm : m ≤ maxLen) (hs : SrcC w a (m * 2) (MFSlot M)) :
    Calls Tryd.prog 75 #[.agg #[.int .i64 n, .int .i64 d, .int .i64 x, .int .i64 s, .int .i64 g, .slice a m c, .int .i64 o], .agg #[.bool kn, .int .i64 lo, .int .i64 hi, .int .i64 h], .int .i64 t] w fun e w' => e = .returned (.bool ((crC kn lo hi h n d t == 0) && (gaC true (crL kn lo hi h n d t) (crH kn lo hi h n d t) n d x s g M m o == 0))) ∧ Below w.heap.size w w' := by
  have A0 := Below.nw w (.cells #[.int .i64 n, .int .i64 d, .int .i64 x, .int .i64 s, .int .i64 g, .slice a m c, .int .i64 o] 88)
  have A1 := Below.nw (w.alloc (.cells #[.int .i64 n, .int .i64 d, .int .i64 x, .int .i64 s, .int .i64 g, .slice a m c, .int .i64 o] 88)) (.cells #[.bool kn, .int .i64 lo, .int .i64 hi, .int .i64 h] 64)
  have G := (Tx7.new w (.int .i64 n) (.int .i64 d) (.int .i64 x) (.int .i64 s) (.int .i64 g) (.slice a m c) (.int .i64 o) 88).below A1
  have L := BoxL.new (w.alloc (.cells #[.int .i64 n, .int .i64 d, .int .i64 x, .int .i64 s, .int .i64 g, .slice a m c, .int .i64 o] 88)) kn lo hi h 64
  have B := A0.trans (A1.mono A0.size)
  simp only [World.size_alloc] at L
  clear A0 A1
  have HS : Hid (SrcC w a (m * 2) (MFSlot M)) := hs
  clear hs
  have CR := fun w' => implCarryOn_any kn lo hi h n d t w'
  have CK := fun w' E hh => gateAsk_any true (crL kn lo hi h n d t) (crH kn lo hi h n d t) n d x s g a m c M o w' E hm hh
  have eN := eqRf
  have eY := eqYes
  generalize gaI true (crL kn lo hi h n d t) (crH kn lo hi h n d t) n d x s g M m o = GI at *
  generalize gaK true (crL kn lo hi h n d t) (crH kn lo hi h n d t) n d x s g M m o = GK at *
  generalize gaC true (crL kn lo hi h n d t) (crH kn lo hi h n d t) n d x s g M m o = GC at *
  generalize crL kn lo hi h n d t = X at *
  generalize crH kn lo hi h n d t = Y at *
  generalize crC kn lo hi h n d t = Q at *
  go_enter Tryd.func75, Tryd.ntmps75
  go_upto_region 1 with fail
  generalize (w.alloc (.cells #[.int .i64 n, .int .i64 d, .int .i64 x, .int .i64 s, .int .i64 g, .slice a m c, .int .i64 o] 88)).alloc (.cells #[.bool kn, .int .i64 lo, .int .i64 hi, .int .i64 h] 64) = v at *
  generalize w.heap.size + 1 = jl at *
  obtain ⟨g0, g1, g2, g3, g4, g5, g6, g7, f1, f2, f3, f4, f5, f6, f7⟩ := id G
  obtain ⟨l0, l1, l2, l3, l4, l5, l6, l7, l8⟩ := id L
  go_wp2_with fail
  refine (CR _).mono ?_
  rintro e v1 ⟨rfl, hb⟩
  clear g0 g1 g2 g3 g4 g5 g6 g7 f1 f2 f3 f4 f5 f6 f7
  clear l0 l1 l2 l3 l4 l5 l6 l7 l8
  replace G := G.below hb
  replace B := B.trans (hb.mono B.size)
  clear hb CR L
  have NL := Below.nw v1 (.cells #[.int .i64 X, .int .i64 Y] 25)
  have Z := Bx2.new v1 (.int .i64 X) (.int .i64 Y) 25
  go_upto_region 2 with fail
  replace G := G.below NL
  replace B := B.trans (NL.mono B.size)
  clear NL
  generalize v1.alloc (.cells #[.int .i64 X, .int .i64 Y] 25) = v2 at *
  generalize v1.heap.size = jz at *
  by_cases q1 : Q = 0
  · subst q1
    obtain ⟨g0, g1, g2, g3, g4, g5, g6, g7, f1, f2, f3, f4, f5, f6, f7⟩ := id G
    obtain ⟨z0, z1, z2, z3, z4⟩ := id Z
    go_wp2_with fail
    refine (CK _ (E.below B) (HS.out.below B)).mono ?_
    rintro e v3 ⟨⟨u, rfl, hv⟩, hb⟩
    clear g0 g1 g2 g3 g4 g5 g6 g7 f1 f2 f3 f4 f5 f6 f7
    clear z0 z1 z2 z3 z4
    replace B := B.trans (hb.mono B.size)
    clear hb CK
    rcases hv with ⟨rfl, rfl⟩ | ⟨q2, a1, rfl⟩
    · go_wp2_with fail
      go_ret
      exact ⟨rfl, B⟩
    · have HZ : Hid ((GC == 0) = false) := beq_eq_false_iff_ne.2 q2
      go_wp2_with fail
      go_ret
      exact ⟨by rw [HZ.out]; rfl, B⟩
  · have HZ : Hid ((Q == 0) = false) := beq_eq_false_iff_ne.2 q1
    clear CK
    go_wp2_with fail
    go_ret
    exact ⟨by rw [HZ.out]; rfl, B⟩
set_option maxRecDepth 100000 in
set_option maxHeartbeats 16000000 in
theorem implGateWait_any (kn : Bool) (lo hi h n d x s g : Int) (a : Option Addr) (m c : Nat) (M : Nat → SlT) (o t y : Int) (w : World) (E : EW w) (hm : m ≤ maxLen) (hs : SrcC w a (m * 2) (MFSlot M)) :
    Calls Tryd.prog 33 #[.agg #[.bool kn, .int .i64 lo, .int .i64 hi, .int .i64 h], .agg #[.int .i64 n, .int .i64 d], .int .i64 x, .agg #[.int .i64 s, .int .i64 g, .slice a m c], .int .i64 o, .int .i64 t, .int .i64 y] w fun e w' => e = .returned (.tuple #[.int .i64 (gwI kn lo hi h n d x s g M m o t y), .bool (gwB kn lo hi h n d x s g M m o t y)]) ∧ Below w.heap.size w w' := by
  have A0 := Below.nw w (.cells #[.bool kn, .int .i64 lo, .int .i64 hi, .int .i64 h] 64)
  have A1 := Below.nw (w.alloc (.cells #[.bool kn, .int .i64 lo, .int .i64 hi, .int .i64 h] 64)) (.cells #[.int .i64 n, .int .i64 d] 27)
  have A2 := Below.nw ((w.alloc (.cells #[.bool kn, .int .i64 lo, .int .i64 hi, .int .i64 h] 64)).alloc (.cells #[.int .i64 n, .int .i64 d] 27)) (.cells #[.int .i64 s, .int .i64 g, .slice a m c] 30)
  have L := ((BoxL.new w kn lo hi h 64).below A1).below A2
  have D := (Bx2.new (w.alloc (.cells #[.bool kn, .int .i64 lo, .int .i64 hi, .int .i64 h] 64)) (.int .i64 n) (.int .i64 d) 27).below A2
  have N := Tx3.new ((w.alloc (.cells #[.bool kn, .int .i64 lo, .int .i64 hi, .int .i64 h] 64)).alloc (.cells #[.int .i64 n, .int .i64 d] 27)) (.int .i64 s) (.int .i64 g) (.slice a m c) 30
  have B := (A0.trans (A1.mono A0.size)).trans (A2.mono (A0.trans (A1.mono A0.size)).size)
  simp only [World.size_alloc] at D N
  clear A0 A1 A2
  have HS : Hid (SrcC w a (m * 2) (MFSlot M)) := hs
  clear hs
  have C2 := fun w' => isTime_any t w'
  have CF := fun w' => gateFor_any n d x s g a m c o w'
  cases h2 : okT t
  · have e1 : gwB kn lo hi h n d x s g M m o t y = false := by unfold gwB gwG; rw [h2]; simp
    have HR : Hid (gwB kn lo hi h n d x s g M m o t y = false ∧ gwI kn lo hi h n d x s g M m o t y = 0) := ⟨e1, gw_no e1⟩
    rw [h2] at C2
    clear e1 h2
    clear L D N HS CF; go_enter Tryd.func33, Tryd.ntmps33; go_upto_region 1 with fail; generalize ((w.alloc (.cells #[.bool kn, .int .i64 lo, .int .i64 hi, .int .i64 h] 64)).alloc (.cells #[.int .i64 n, .int .i64 d] 27)).alloc (.cells #[.int .i64 s, .int .i64 g, .slice a m c] 30) = v at *; generalize w.heap.size + 1 + 1 = jn at *; generalize w.heap.size + 1 = jd at *; go_wp2_with fail; refine (C2 _).mono ?_; rintro e w' ⟨rfl, rfl⟩; go_wp2_with fail; go_ret2; exact ⟨by rw [HR.out.1, HR.out.2]; rfl, B⟩
  by_cases h3 : y < 0
  · have e1 : gwB kn lo hi h n d x s g M m o t y = false := by unfold gwB gwG; rw [decide_eq_false (by omega)]; rfl
    have HR : Hid (gwB kn lo hi h n d x s g M m o t y = false ∧ gwI kn lo hi h n d x s g M m o t y = 0) := ⟨e1, gw_no e1⟩
    rw [h2] at C2
    clear e1 h2
    clear L D N HS CF; go_enter Tryd.func33, Tryd.ntmps33; go_upto_region 1 with fail; generalize ((w.alloc (.cells #[.bool kn, .int .i64 lo, .int .i64 hi, .int .i64 h] 64)).alloc (.cells #[.int .i64 n, .int .i64 d] 27)).alloc (.cells #[.int .i64 s, .int .i64 g, .slice a m c] 30) = v at *; generalize w.heap.size + 1 + 1 = jn at *; generalize w.heap.size + 1 = jd at *; go_wp2_with fail; refine (C2 _).mono ?_; rintro e w' ⟨rfl, rfl⟩; go_wp2_with fail; go_ret2; exact ⟨by rw [HR.out.1, HR.out.2]; rfl, B⟩
  by_cases h4 : 400 < y
  · have e1 : gwB kn lo hi h n d x s g M m o t y = false := by unfold gwB gwG; rw [decide_eq_false (by omega)]; rfl
    have HR : Hid (gwB kn lo hi h n d x s g M m o t y = false ∧ gwI kn lo hi h n d x s g M m o t y = 0) := ⟨e1, gw_no e1⟩
    rw [h2] at C2
    clear e1 h2
    clear L D N HS CF; go_enter Tryd.func33, Tryd.ntmps33; go_upto_region 1 with fail; generalize ((w.alloc (.cells #[.bool kn, .int .i64 lo, .int .i64 hi, .int .i64 h] 64)).alloc (.cells #[.int .i64 n, .int .i64 d] 27)).alloc (.cells #[.int .i64 s, .int .i64 g, .slice a m c] 30) = v at *; generalize w.heap.size + 1 + 1 = jn at *; generalize w.heap.size + 1 = jd at *; go_wp2_with fail; refine (C2 _).mono ?_; rintro e w' ⟨rfl, rfl⟩; go_wp2_with fail; go_ret2; exact ⟨by rw [HR.out.1, HR.out.2]; rfl, B⟩
  have HG : Hid (gwG t y = true) := by unfold Hid gwG; rw [h2, decide_eq_true (by omega)]; rfl
  have ht := okT_t h2
  rw [h2] at C2
  clear h2
  have hy : 0 ≤ y ∧ y ≤ 400 := by omega
  have hwy : IntKind.i64.wrap (y + 1) = y + 1 := Go.IntWalk.i64_in _ ⟨by omega, by omega⟩
  go_enter Tryd.func33, Tryd.ntmps33; go_upto_region 1 with fail; generalize ((w.alloc (.cells #[.bool kn, .int .i64 lo, .int .i64 hi, .int .i64 h] 64)).alloc (.cells #[.int .i64 n, .int .i64 d] 27)).alloc (.cells #[.int .i64 s, .int .i64 g, .slice a m c] 30) = v at *; generalize w.heap.size + 1 + 1 = jn at *; generalize w.heap.size + 1 = jd at *; go_wp2_with fail; refine (C2 _).mono ?_; rintro e w' ⟨rfl, rfl⟩
  clear C2
  obtain ⟨d0, d1, d2, d3, d4⟩ := id D
  obtain ⟨n0, n1, n2, n3, n4, n5, n6⟩ := id N
  go_wp2_with fail
  refine (CF _).mono ?_
  rintro e v1 ⟨rfl, hb⟩
  clear d0 d1 d2 d3 d4
  clear n0 n1 n2 n3 n4 n5 n6
  replace L := L.below hb
  replace B := B.trans (hb.mono B.size)
  clear hb CF D N h3 h4
  have NL := Below.nw v1 (.cells #[.int .i64 n, .int .i64 d, .int .i64 x, .int .i64 s, .int .i64 g, .slice a m c, .int .i64 o] 88)
  have G := Tx7.new v1 (.int .i64 n) (.int .i64 d) (.int .i64 x) (.int .i64 s) (.int .i64 g) (.slice a m c) (.int .i64 o) 88
  go_upto_region 4 with fail
  replace L := L.below NL
  replace B := B.trans (NL.mono B.size)
  clear NL
  generalize v1.alloc (.cells #[.int .i64 n, .int .i64 d, .int .i64 x, .int .i64 s, .int .i64 g, .slice a m c, .int .i64 o] 88) = v2 at *
  generalize v1.heap.size = jg at *
  go_wp2_with fail
  go_loopw [36] (fun i wr => ∃ (j : Nat), j ≤ y.toNat + 1 ∧ i = .int .i64 (j : Int) ∧ fnd (gwP kn lo hi h n d x s g M m o t) j = j ∧ BoxL wr w.heap.size kn lo hi h ∧ Tx7 wr jg (.int .i64 n) (.int .i64 d) (.int .i64 x) (.int .i64 s) (.int .i64 g) (.slice a m c) (.int .i64 o) ∧ Below w.heap.size w wr) (fun i _ => y.toNat + 1 - (intOf i).toNat)
  case atStart => exact ⟨0, Nat.zero_le _, rfl, rfl, L, G, B⟩
  case round =>
    clear L G B
    obtain ⟨j, hj2, rfl, hf, L, G, B⟩ := hrel
    by_cases hlt : (j : Int) < y + 1
    · have HLT : Hid (j + 1 ≤ y.toNat + 1) := by unfold Hid; omega
      have hw : IntKind.i64.wrap (t + (j : Int)) = t + (j : Int) := Go.IntWalk.i64_in _ ⟨by omega, by omega⟩
      have CK := fun w' E hh => goesAt_any kn lo hi h n d x s g a m c M o (t + (j : Int)) w' E hm hh
      have HP : Hid ((gwP kn lo hi h n d x s g M m o t) j = ((crC kn lo hi h n d (t + (j : Int)) == 0) && (gaC true (crL kn lo hi h n d (t + (j : Int))) (crH kn lo hi h n d (t + (j : Int))) n d x s g M m o == 0))) := rfl
      have HY : Hid ((gwP kn lo hi h n d x s g M m o t) j = true → gwB kn lo hi h n d x s g M m o t y = true ∧ gwI kn lo hi h n d x s g M m o t y = (j : Int)) := fun hp => gw_at HG.out hf hp (by omega)
      have HN : Hid ((gwP kn lo hi h n d x s g M m o t) j = false → fnd (gwP kn lo hi h n d x s g M m o t) (j + 1) = j + 1) := fun hp => fnd_miss hf hp
      clear hj2 hf HG
      generalize ((crC kn lo hi h n d (t + (j : Int)) == 0) && (gaC true (crL kn lo hi h n d (t + (j : Int))) (crH kn lo hi h n d (t + (j : Int))) n d x s g M m o == 0)) = Q at *
      obtain ⟨l0, l1, l2, l3, l4, l5, l6, l7, l8⟩ := id L
      obtain ⟨g0, g1, g2, g3, g4, g5, g6, g7, f1, f2, f3, f4, f5, f6, f7⟩ := id G
      go_wp2_with fail
      refine (CK _ (E.below B) (HS.out.below B)).mono ?_
      rintro e v4 ⟨rfl, hb⟩
      clear l0 l1 l2 l3 l4 l5 l6 l7 l8
      clear g0 g1 g2 g3 g4 g5 g6 g7 f1 f2 f3 f4 f5 f6 f7
      replace L := L.below hb
      replace G := G.below hb
      replace B := B.trans (hb.mono B.size)
      clear hb CK
      cases Q
      · have HR : Hid (fnd (gwP kn lo hi h n d x s g M m o t) (j + 1) = j + 1) := HN.out HP.out
        clear HY HN HP
        go_wp2_with fail
        go_roundw
        case rel => exact ⟨j + 1, HLT.out, by go_num, HR.out, L, G, B⟩
        case measure => have hlt' := HLT.out; simp [intOf]; omega
      · have HR : Hid (gwB kn lo hi h n d x s g M m o t y = true ∧ gwI kn lo hi h n d x s g M m o t y = (j : Int)) := HY.out HP.out
        clear HY HN HP
        go_wp2_with fail
        go_ret2
        exact ⟨by rw [HR.out.1, HR.out.2]; rfl, B⟩
    · have e1 := gw_end hf hy.1 hj2 (by omega)
      have HR : Hid (gwB kn lo hi h n d x s g M m o t y = false ∧ gwI kn lo hi h n d x s g M m o t y = 0) := ⟨e1, gw_no e1⟩
      clear e1 hf hj2
      go_wp2_with fail
      go_ret2
      exact ⟨by rw [HR.out.1, HR.out.2]; rfl, B⟩
end Go.Proofs.YtcakhfobkbgfoaaDoor
