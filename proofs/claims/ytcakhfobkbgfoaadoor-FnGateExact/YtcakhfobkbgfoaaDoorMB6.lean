/- The gate in the program: its faults, its place, what it answers; GateWait. errors.As where the error is of the asked type, or none. GateBudget in the specification. The longest slot of an owner, and GateBudget in the program. GateAsk in the program: the refusal is asked for by errors.As. What the draws leave: times, intervals, the new cursor. What the draws leave: times, intervals, the new cursor. A struct of two ints in a block: what keeps it. What the draws of chapter 2 leave: a drift, a count. Numbers of occurrences. -/
import Derived.Test.YtcakhfobkbgfoaaDoorMB3
import Derived.Test.YtcakhfobkbgfoaaDoorMB4
import Derived.Test.YtcakhfobkbgfoaaDoorMB5
import Derived.Test.YtcakhfobkbgfoaaDoorMB1
import Derived.Deep.RegionHeld3
import Derived.Deep.DeepCutAuto
import Derived.WalkKit
import Derived.WalkSpells
import Derived.WalkLawsBesides
import Derived.Deep.RegionHeld
import Derived.Test.YtcakhfobkbgfoaaDoorMB2
import Derived.LaidEql
import Derived.Stop.Asserts
import Derived.RowKitTokens
import Derived.Deep.QuietTactic
import Derived.BigQuiet
namespace Go.Proofs.YtcakhfobkbgfoaaDoor
open Go.RowKit
set_option linter.unusedVariables false
def Tx7 (w : World) (k : Nat) (u0 u1 u2 u3 u4 u5 u6 : Value) : Prop := k < w.heap.size ∧ w.cell? ⟨k, 0, none⟩ = some u0 ∧ w.cell? ⟨k, 1, none⟩ = some u1 ∧ w.cell? ⟨k, 2, none⟩ = some u2 ∧ w.cell? ⟨k, 3, none⟩ = some u3 ∧ w.cell? ⟨k, 4, none⟩ = some u4 ∧ w.cell? ⟨k, 5, none⟩ = some u5 ∧ w.cell? ⟨k, 6, none⟩ = some u6 ∧ w.frozen? ⟨k, 0, none⟩ = false ∧ w.frozen? ⟨k, 1, none⟩ = false ∧ w.frozen? ⟨k, 2, none⟩ = false ∧ w.frozen? ⟨k, 3, none⟩ = false ∧ w.frozen? ⟨k, 4, none⟩ = false ∧ w.frozen? ⟨k, 5, none⟩ = false ∧ w.frozen? ⟨k, 6, none⟩ = false
theorem Tx7.belowB {k B : Nat} {w w' : World} {u0 u1 u2 u3 u4 u5 u6 : Value} (h : Tx7 w k u0 u1 u2 u3 u4 u5 u6) (hw : Below B w w') (hk : k < B) : Tx7 w' k u0 u1 u2 u3 u4 u5 u6 := by
  obtain ⟨h0, h1, h2, h3, h4, h5, h6, h7, f1, f2, f3, f4, f5, f6, f7⟩ := h
  exact ⟨Nat.lt_of_lt_of_le h0 hw.size, by rw [hw.cell (p := ⟨k, 0, none⟩) hk]; exact h1, by rw [hw.cell (p := ⟨k, 1, none⟩) hk]; exact h2, by rw [hw.cell (p := ⟨k, 2, none⟩) hk]; exact h3, by rw [hw.cell (p := ⟨k, 3, none⟩) hk]; exact h4, by rw [hw.cell (p := ⟨k, 4, none⟩) hk]; exact h5, by rw [hw.cell (p := ⟨k, 5, none⟩) hk]; exact h6, by rw [hw.cell (p := ⟨k, 6, none⟩) hk]; exact h7, by rw [hw.frozen (p := ⟨k, 0, none⟩) hk]; exact f1, by rw [hw.frozen (p := ⟨k, 1, none⟩) hk]; exact f2, by rw [hw.frozen (p := ⟨k, 2, none⟩) hk]; exact f3, by rw [hw.frozen (p := ⟨k, 3, none⟩) hk]; exact f4, by rw [hw.frozen (p := ⟨k, 4, none⟩) hk]; exact f5, by rw [hw.frozen (p := ⟨k, 5, none⟩) hk]; exact f6, by rw [hw.frozen (p := ⟨k, 6, none⟩) hk]; exact f7⟩
theorem Tx7.below {k : Nat} {w w' : World} {u0 u1 u2 u3 u4 u5 u6 : Value} (h : Tx7 w k u0 u1 u2 u3 u4 u5 u6) (hw : Below w.heap.size w w') : Tx7 w' k u0 u1 u2 u3 u4 u5 u6 := h.belowB hw h.1
theorem Tx7.but {w w' : World} {k q : Nat} {u0 u1 u2 u3 u4 u5 u6 : Value} (h : Tx7 w k u0 u1 u2 u3 u4 u5 u6) (hb : But q w w') (hq : k ≠ q) : Tx7 w' k u0 u1 u2 u3 u4 u5 u6 := by
  obtain ⟨h0, h1, h2, h3, h4, h5, h6, h7, f1, f2, f3, f4, f5, f6, f7⟩ := h
  exact ⟨Nat.lt_of_lt_of_le h0 hb.2.2.2.1, by rw [hb.cell h0 hq]; exact h1, by rw [hb.cell h0 hq]; exact h2, by rw [hb.cell h0 hq]; exact h3, by rw [hb.cell h0 hq]; exact h4, by rw [hb.cell h0 hq]; exact h5, by rw [hb.cell h0 hq]; exact h6, by rw [hb.cell h0 hq]; exact h7, by rw [hb.frozen h0 hq]; exact f1, by rw [hb.frozen h0 hq]; exact f2, by rw [hb.frozen h0 hq]; exact f3, by rw [hb.frozen h0 hq]; exact f4, by rw [hb.frozen h0 hq]; exact f5, by rw [hb.frozen h0 hq]; exact f6, by rw [hb.frozen h0 hq]; exact f7⟩
theorem Tx7.alloc {k : Nat} {w : World} {u0 u1 u2 u3 u4 u5 u6 : Value} (h : Tx7 w k u0 u1 u2 u3 u4 u5 u6) (o : Obj) : Tx7 (w.alloc o) k u0 u1 u2 u3 u4 u5 u6 := h.below ((Below.refl _ _).alloc (Nat.le_refl _) _)
theorem Tx7.new (w : World) (u0 u1 u2 u3 u4 u5 u6 : Value) (T : TypeId) : Tx7 (w.alloc (.cells #[u0, u1, u2, u3, u4, u5, u6] T)) w.heap.size u0 u1 u2 u3 u4 u5 u6 := ⟨by simp, by simp, by simp, by simp, by simp, by simp, by simp, by simp, by simp, by simp, by simp, by simp, by simp, by simp, by simp⟩
theorem Tx7.drew {k : Nat} {w : World} {u0 u1 u2 u3 u4 u5 u6 : Value} (h : Tx7 w k u0 u1 u2 u3 u4 u5 u6) : Tx7 w.drew k u0 u1 u2 u3 u4 u5 u6 := h
theorem Tx7.setO {k j : Nat} {w : World} {u0 u1 u2 u3 u4 u5 u6 : Value} (h : Tx7 w k u0 u1 u2 u3 u4 u5 u6) (hk : j ≠ k) (o : Nat) (u : Value) : Tx7 (w.setCell ⟨j, o, none⟩ u) k u0 u1 u2 u3 u4 u5 u6 := by
  have hne : ∀ q, (⟨j, o, none⟩ : Addr) ≠ ⟨k, q, none⟩ := fun q e => hk (congrArg Addr.block e)
  obtain ⟨h0, h1, h2, h3, h4, h5, h6, h7, f1, f2, f3, f4, f5, f6, f7⟩ := h
  exact ⟨by simpa using h0, by rw [World.cell?_setCell_other _ _ _ _ (hne _)]; exact h1, by rw [World.cell?_setCell_other _ _ _ _ (hne _)]; exact h2, by rw [World.cell?_setCell_other _ _ _ _ (hne _)]; exact h3, by rw [World.cell?_setCell_other _ _ _ _ (hne _)]; exact h4, by rw [World.cell?_setCell_other _ _ _ _ (hne _)]; exact h5, by rw [World.cell?_setCell_other _ _ _ _ (hne _)]; exact h6, by rw [World.cell?_setCell_other _ _ _ _ (hne _)]; exact h7, by simpa using f1, by simpa using f2, by simpa using f3, by simpa using f4, by simpa using f5, by simpa using f6, by simpa using f7⟩
theorem Tx7.set0 {k : Nat} {w : World} {u0 u1 u2 u3 u4 u5 u6 : Value} (h : Tx7 w k u0 u1 u2 u3 u4 u5 u6) (x : Value) : Tx7 (w.setCell ⟨k, 0, none⟩ x) k x u1 u2 u3 u4 u5 u6 := by
  obtain ⟨h0, h1, h2, h3, h4, h5, h6, h7, f1, f2, f3, f4, f5, f6, f7⟩ := h
  exact ⟨by simpa using h0, World.cell?_setCell_same _ _ _ h1, (World.cell?_setCell_other _ _ _ _ (by simp)).trans h2, (World.cell?_setCell_other _ _ _ _ (by simp)).trans h3, (World.cell?_setCell_other _ _ _ _ (by simp)).trans h4, (World.cell?_setCell_other _ _ _ _ (by simp)).trans h5, (World.cell?_setCell_other _ _ _ _ (by simp)).trans h6, (World.cell?_setCell_other _ _ _ _ (by simp)).trans h7, by simpa using f1, by simpa using f2, by simpa using f3, by simpa using f4, by simpa using f5, by simpa using f6, by simpa using f7⟩
theorem Tx7.set1 {k : Nat} {w : World} {u0 u1 u2 u3 u4 u5 u6 : Value} (h : Tx7 w k u0 u1 u2 u3 u4 u5 u6) (x : Value) : Tx7 (w.setCell ⟨k, 1, none⟩ x) k u0 x u2 u3 u4 u5 u6 := by
  obtain ⟨h0, h1, h2, h3, h4, h5, h6, h7, f1, f2, f3, f4, f5, f6, f7⟩ := h
  exact ⟨by simpa using h0, (World.cell?_setCell_other _ _ _ _ (by simp)).trans h1, World.cell?_setCell_same _ _ _ h2, (World.cell?_setCell_other _ _ _ _ (by simp)).trans h3, (World.cell?_setCell_other _ _ _ _ (by simp)).trans h4, (World.cell?_setCell_other _ _ _ _ (by simp)).trans h5, (World.cell?_setCell_other _ _ _ _ (by simp)).trans h6, (World.cell?_setCell_other _ _ _ _ (by simp)).trans h7, by simpa using f1, by simpa using f2, by simpa using f3, by simpa using f4, by simpa using f5, by simpa using f6, by simpa using f7⟩
theorem Tx7.set2 {k : Nat} {w : World} {u0 u1 u2 u3 u4 u5 u6 : Value} (h : Tx7 w k u0 u1 u2 u3 u4 u5 u6) (x : Value) : Tx7 (w.setCell ⟨k, 2, none⟩ x) k u0 u1 x u3 u4 u5 u6 := by
  obtain ⟨h0, h1, h2, h3, h4, h5, h6, h7, f1, f2, f3, f4, f5, f6, f7⟩ := h
  exact ⟨by simpa using h0, (World.cell?_setCell_other _ _ _ _ (by simp)).trans h1, (World.cell?_setCell_other _ _ _ _ (by simp)).trans h2, World.cell?_setCell_same _ _ _ h3, (World.cell?_setCell_other _ _ _ _ (by simp)).trans h4, (World.cell?_setCell_other _ _ _ _ (by simp)).trans h5, (World.cell?_setCell_other _ _ _ _ (by simp)).trans h6, (World.cell?_setCell_other _ _ _ _ (by simp)).trans h7, by simpa using f1, by simpa using f2, by simpa using f3, by simpa using f4, by simpa using f5, by simpa using f6, by simpa using f7⟩
theorem Tx7.set3 {k : Nat} {w : World} {u0 u1 u2 u3 u4 u5 u6 : Value} (h : Tx7 w k u0 u1 u2 u3 u4 u5 u6) (x : Value) : Tx7 (w.setCell ⟨k, 3, none⟩ x) k u0 u1 u2 x u4 u5 u6 := by
  obtain ⟨h0, h1, h2, h3, h4, h5, h6, h7, f1, f2, f3, f4, f5, f6, f7⟩ := h
  exact ⟨by simpa using h0, (World.cell?_setCell_other _ _ _ _ (by simp)).trans h1, (World.cell?_setCell_other _ _ _ _ (by simp)).trans h2, (World.cell?_setCell_other _ _ _ _ (by simp)).trans h3, World.cell?_setCell_same _ _ _ h4, (World.cell?_setCell_other _ _ _ _ (by simp)).trans h5, (World.cell?_setCell_other _ _ _ _ (by simp)).trans h6, (World.cell?_setCell_other _ _ _ _ (by simp)).trans h7, by simpa using f1, by simpa using f2, by simpa using f3, by simpa using f4, by simpa using f5, by simpa using f6, by simpa using f7⟩
theorem Tx7.set4 {k : Nat} {w : World} {u0 u1 u2 u3 u4 u5 u6 : Value} (h : Tx7 w k u0 u1 u2 u3 u4 u5 u6) (x : Value) : Tx7 (w.setCell ⟨k, 4, none⟩ x) k u0 u1 u2 u3 x u5 u6 := by
  obtain ⟨h0, h1, h2, h3, h4, h5, h6, h7, f1, f2, f3, f4, f5, f6, f7⟩ := h
  exact ⟨by simpa using h0, (World.cell?_setCell_other _ _ _ _ (by simp)).trans h1, (World.cell?_setCell_other _ _ _ _ (by simp)).trans h2, (World.cell?_setCell_other _ _ _ _ (by simp)).trans h3, (World.cell?_setCell_other _ _ _ _ (by simp)).trans h4, World.cell?_setCell_same _ _ _ h5, (World.cell?_setCell_other _ _ _ _ (by simp)).trans h6, (World.cell?_setCell_other _ _ _ _ (by simp)).trans h7, by simpa using f1, by simpa using f2, by simpa using f3, by simpa using f4, by simpa using f5, by simpa using f6, by simpa using f7⟩
theorem Tx7.set5 {k : Nat} {w : World} {u0 u1 u2 u3 u4 u5 u6 : Value} (h : Tx7 w k u0 u1 u2 u3 u4 u5 u6) (x : Value) : Tx7 (w.setCell ⟨k, 5, none⟩ x) k u0 u1 u2 u3 u4 x u6 := by
  obtain ⟨h0, h1, h2, h3, h4, h5, h6, h7, f1, f2, f3, f4, f5, f6, f7⟩ := h
  exact ⟨by simpa using h0, (World.cell?_setCell_other _ _ _ _ (by simp)).trans h1, (World.cell?_setCell_other _ _ _ _ (by simp)).trans h2, (World.cell?_setCell_other _ _ _ _ (by simp)).trans h3, (World.cell?_setCell_other _ _ _ _ (by simp)).trans h4, (World.cell?_setCell_other _ _ _ _ (by simp)).trans h5, World.cell?_setCell_same _ _ _ h6, (World.cell?_setCell_other _ _ _ _ (by simp)).trans h7, by simpa using f1, by simpa using f2, by simpa using f3, by simpa using f4, by simpa using f5, by simpa using f6, by simpa using f7⟩
theorem Tx7.set6 {k : Nat} {w : World} {u0 u1 u2 u3 u4 u5 u6 : Value} (h : Tx7 w k u0 u1 u2 u3 u4 u5 u6) (x : Value) : Tx7 (w.setCell ⟨k, 6, none⟩ x) k u0 u1 u2 u3 u4 u5 x := by
  obtain ⟨h0, h1, h2, h3, h4, h5, h6, h7, f1, f2, f3, f4, f5, f6, f7⟩ := h
  exact ⟨by simpa using h0, (World.cell?_setCell_other _ _ _ _ (by simp)).trans h1, (World.cell?_setCell_other _ _ _ _ (by simp)).trans h2, (World.cell?_setCell_other _ _ _ _ (by simp)).trans h3, (World.cell?_setCell_other _ _ _ _ (by simp)).trans h4, (World.cell?_setCell_other _ _ _ _ (by simp)).trans h5, (World.cell?_setCell_other _ _ _ _ (by simp)).trans h6, World.cell?_setCell_same _ _ _ h7, by simpa using f1, by simpa using f2, by simpa using f3, by simpa using f4, by simpa using f5, by simpa using f6, by simpa using f7⟩
def EW (w : World) : Prop := ErE w 1 ∧ ErE w 7 ∧ ErE w 8 ∧ ErE w 3 ∧ ErE w 4 ∧ ErE w 5 ∧ ErE w 2 ∧ ErE w 6
theorem EW.below {w w' : World} (h : EW w) (hb : Below w.heap.size w w') : EW w' := ⟨h.1.below hb, h.2.1.below hb, h.2.2.1.below hb, h.2.2.2.1.below hb, h.2.2.2.2.1.below hb, h.2.2.2.2.2.1.below hb, h.2.2.2.2.2.2.1.below hb, h.2.2.2.2.2.2.2.below hb⟩
theorem EW.es {w : World} (h : EW w) : ES w := ⟨h.1, h.2.1, h.2.2.1, h.2.2.2.2.2.2.1⟩
theorem EW.em {w : World} (h : EW w) : EM w := h.es.em
set_option maxRecDepth 100000 in
set_option maxHeartbeats 8000000 in
theorem gateFor_any (n d x s g : Int) (a : Option Addr) (m c : Nat) (o : Int) (w : World) :
    Calls Tryd.prog 46 #[.agg #[.int .i64 n, .int .i64 d], .int .i64 x, .agg #[.int .i64 s, .int .i64 g, .slice a m c], .int .i64 o] w fun e w' => e = .returned (.agg #[.int .i64 n, .int .i64 d, .int .i64 x, .int .i64 s, .int .i64 g, .slice a m c, .int .i64 o]) ∧ Below w.heap.size w w' := by
  have A0 := Below.nw w (.cells #[.int .i64 n, .int .i64 d] 27)
  have A1 := Below.nw (w.alloc (.cells #[.int .i64 n, .int .i64 d] 27)) (.cells #[.int .i64 s, .int .i64 g, .slice a m c] 30)
  have A2 := Below.nw ((w.alloc (.cells #[.int .i64 n, .int .i64 d] 27)).alloc (.cells #[.int .i64 s, .int .i64 g, .slice a m c] 30)) (.cells #[.int .i64 0, .int .i64 0, .int .i64 0, .int .i64 0, .int .i64 0, .slice none 0 0, .int .i64 0] 88)
  have D := ((Bx2.new w (.int .i64 n) (.int .i64 d) 27).below A1).below A2
  have N := (Tx3.new (w.alloc (.cells #[.int .i64 n, .int .i64 d] 27)) (.int .i64 s) (.int .i64 g) (.slice a m c) 30).below A2
  have K := Tx7.new ((w.alloc (.cells #[.int .i64 n, .int .i64 d] 27)).alloc (.cells #[.int .i64 s, .int .i64 g, .slice a m c] 30)) (.int .i64 0) (.int .i64 0) (.int .i64 0) (.int .i64 0) (.int .i64 0) (.slice none 0 0) (.int .i64 0) 88
  have B := (A0.trans (A1.mono A0.size)).trans (A2.mono (A0.trans (A1.mono A0.size)).size)
  simp only [World.size_alloc] at N K
  clear A0 A1 A2
  have HK : w.heap.size ≤ w.heap.size + 1 + 1 := by omega
  go_enter Tryd.func46, Tryd.ntmps46
  go_upto_region 1 with fail
  generalize ((w.alloc (.cells #[.int .i64 n, .int .i64 d] 27)).alloc (.cells #[.int .i64 s, .int .i64 g, .slice a m c] 30)).alloc (.cells #[.int .i64 0, .int .i64 0, .int .i64 0, .int .i64 0, .int .i64 0, .slice none 0 0, .int .i64 0] 88) = v at *
  generalize w.heap.size + 1 + 1 = jk at *
  generalize w.heap.size + 1 = jn at *
  obtain ⟨d0, d1, d2, d3, d4⟩ := id D
  obtain ⟨n0, n1, n2, n3, n4, n5, n6⟩ := id N
  obtain ⟨k0, k1, k2, k3, k4, k5, k6, k7, f1, f2, f3, f4, f5, f6, f7⟩ := id K
  go_wp2_with fail
  replace K := ((((((K.set0 (.int .i64 n)).set1 (.int .i64 d)).set2 (.int .i64 x)).set3 (.int .i64 s)).set4 (.int .i64 g)).set5 (.slice a m c)).set6 (.int .i64 o)
  replace B := ((((((B.setCell (p := ⟨jk, 0, none⟩) HK (.int .i64 n)).setCell (p := ⟨jk, 1, none⟩) HK (.int .i64 d)).setCell (p := ⟨jk, 2, none⟩) HK (.int .i64 x)).setCell (p := ⟨jk, 3, none⟩) HK (.int .i64 s)).setCell (p := ⟨jk, 4, none⟩) HK (.int .i64 g)).setCell (p := ⟨jk, 5, none⟩) HK (.slice a m c)).setCell (p := ⟨jk, 6, none⟩) HK (.int .i64 o)
  generalize ((((((v.setCell ⟨jk, 0, none⟩ (.int .i64 n)).setCell ⟨jk, 1, none⟩ (.int .i64 d)).setCell ⟨jk, 2, none⟩ (.int .i64 x)).setCell ⟨jk, 3, none⟩ (.int .i64 s)).setCell ⟨jk, 4, none⟩ (.int .i64 g)).setCell ⟨jk, 5, none⟩ (.slice a m c)).setCell ⟨jk, 6, none⟩ (.int .i64 o) = v2 at *
  clear k0 k1 k2 k3 k4 k5 k6 k7 f1 f2 f3 f4 f5 f6 f7 D N
  clear d0 d1 d2 d3 d4
  clear n0 n1 n2 n3 n4 n5 n6
  obtain ⟨k0, k1, k2, k3, k4, k5, k6, k7, f1, f2, f3, f4, f5, f6, f7⟩ := id K
  exact bodyPost_ret (v := (.agg #[.int .i64 n, .int .i64 d, .int .i64 x, .int .i64 s, .int .i64 g, .slice a m c, .int .i64 o])) (by simp (maxDischargeDepth := 6) [results, Tryd.results46, go_sem, *]) rfl ⟨rfl, B⟩
/- What the gate's faults come to. -/
theorem ga_iv {lo hi n d x : Int} {pl : Bool} {o : Int} (h : okI lo hi = false) : gaP true lo hi n d x pl o = false := by unfold gaP; rw [h]; rfl
theorem ga_pl {kn : Bool} {lo hi n d x : Int} {pl : Bool} {o : Int} (h : pl = false) : gaP kn lo hi n d x pl o = false := by unfold gaP; rw [h]; simp
theorem ga_nd {kn : Bool} {lo hi n d x : Int} {pl : Bool} {o : Int} (h : nodB o = false) : gaP kn lo hi n d x pl o = false := by unfold gaP; rw [h]; simp
theorem ga_fr {kn : Bool} {lo hi n d x : Int} {pl : Bool} {o : Int} (hk : (!kn || okI lo hi) = true) (h : pl = true) (h2 : nodB o = true) : gaP kn lo hi n d x pl o = frB n d x := by unfold gaP frB; rw [hk, h, h2]; simp
set_option maxRecDepth 100000 in
set_option maxHeartbeats 16000000 in
theorem gateFault_any (kn : Bool) (lo hi n d x s g : Int) (a : Option Addr) (m c : Nat) (M : Nat → SlT) (o : Int) (w : World) (E : EW w) (hm : m ≤ maxLen) (hs : SrcC w a (m * 2) (MFSlot M)) :
    Calls Tryd.prog 82 #[.agg #[.int .i64 n, .int .i64 d, .int .i64 x, .int .i64 s, .int .i64 g, .slice a m c, .int .i64 o], .agg #[.int .i64 lo, .int .i64 hi], .bool kn] w fun e w' => (∃ v, e = .returned v ∧ Fv (gaP kn lo hi n d x (plB s g M m) o) v) ∧ Below w.heap.size w w' := by
  have A0 := Below.nw w (.cells #[.int .i64 n, .int .i64 d, .int .i64 x, .int .i64 s, .int .i64 g, .slice a m c, .int .i64 o] 88)
  have A1 := Below.nw (w.alloc (.cells #[.int .i64 n, .int .i64 d, .int .i64 x, .int .i64 s, .int .i64 g, .slice a m c, .int .i64 o] 88)) (.cells #[.int .i64 lo, .int .i64 hi] 25)
  have G := (Tx7.new w (.int .i64 n) (.int .i64 d) (.int .i64 x) (.int .i64 s) (.int .i64 g) (.slice a m c) (.int .i64 o) 88).below A1
  have P := Bx2.new (w.alloc (.cells #[.int .i64 n, .int .i64 d, .int .i64 x, .int .i64 s, .int .i64 g, .slice a m c, .int .i64 o] 88)) (.int .i64 lo) (.int .i64 hi) 25
  have B := A0.trans (A1.mono A0.size)
  simp only [World.size_alloc] at P
  clear A0 A1
  have HS : Hid (SrcC w a (m * 2) (MFSlot M)) := hs
  clear hs
  have CI := fun w' => ok_any lo hi w'
  have CP := fun w' h => planOk_any s g a m c M w' hm h
  have CO := fun w' => isNode_any o w'
  have CF := fun w' E => outFault_any n d x w' E
  cases kn
  · clear CI
    cases h2 : plB s g M m
    · have HF : Hid (gaP false lo hi n d x false o = false) := ga_pl rfl
      rw [h2] at CP
      clear h2 CO CF
      go_enter Tryd.func82, Tryd.ntmps82; go_upto_region 1 with fail; generalize (w.alloc (.cells #[.int .i64 n, .int .i64 d, .int .i64 x, .int .i64 s, .int .i64 g, .slice a m c, .int .i64 o] 88)).alloc (.cells #[.int .i64 lo, .int .i64 hi] 25) = v at *; generalize w.heap.size + 1 = jp at *
      obtain ⟨p0, p1, p2, p3, p4⟩ := id P; obtain ⟨g0, g1, g2, g3, g4, g5, g6, g7, f1, f2, f3, f4, f5, f6, f7⟩ := id G; go_wp2_with fail; refine (CP _ (HS.out.below B)).mono ?_; rintro e v2 ⟨rfl, hb⟩; clear g0 g1 g2 g3 g4 g5 g6 g7 f1 f2 f3 f4 f5 f6 f7; clear p0 p1 p2 p3 p4; replace G := G.below hb; replace P := P.below hb; replace B := B.trans (hb.mono B.size); clear hb; clear CP
      obtain ⟨a1, q1⟩ := (E.2.2.2.1.below B).cell; go_wp2_with fail; go_ret; exact ⟨⟨_, rfl, fv_no HF.out a1⟩, B⟩
    cases h3 : nodB o
    · have HF : Hid (gaP false lo hi n d x true o = false) := ga_nd h3
      rw [h2] at CP
      rw [h3] at CO
      clear h2 h3 CF
      go_enter Tryd.func82, Tryd.ntmps82; go_upto_region 1 with fail; generalize (w.alloc (.cells #[.int .i64 n, .int .i64 d, .int .i64 x, .int .i64 s, .int .i64 g, .slice a m c, .int .i64 o] 88)).alloc (.cells #[.int .i64 lo, .int .i64 hi] 25) = v at *; generalize w.heap.size + 1 = jp at *
      obtain ⟨p0, p1, p2, p3, p4⟩ := id P; obtain ⟨g0, g1, g2, g3, g4, g5, g6, g7, f1, f2, f3, f4, f5, f6, f7⟩ := id G; go_wp2_with fail; refine (CP _ (HS.out.below B)).mono ?_; rintro e v2 ⟨rfl, hb⟩; clear g0 g1 g2 g3 g4 g5 g6 g7 f1 f2 f3 f4 f5 f6 f7; clear p0 p1 p2 p3 p4; replace G := G.below hb; replace P := P.below hb; replace B := B.trans (hb.mono B.size); clear hb; clear CP
      obtain ⟨g0, g1, g2, g3, g4, g5, g6, g7, f1, f2, f3, f4, f5, f6, f7⟩ := id G; go_wp2_with fail; refine (CO _).mono ?_; rintro e w' ⟨rfl, rfl⟩; clear g0 g1 g2 g3 g4 g5 g6 g7 f1 f2 f3 f4 f5 f6 f7; clear CO
      obtain ⟨a1, q1⟩ := (E.2.2.2.2.1.below B).cell; go_wp2_with fail; go_ret; exact ⟨⟨_, rfl, fv_no HF.out a1⟩, B⟩
    have HF : Hid (gaP false lo hi n d x true o = frB n d x) := ga_fr rfl rfl h3
    rw [h2] at CP
    rw [h3] at CO
    clear h2 h3
    go_enter Tryd.func82, Tryd.ntmps82; go_upto_region 1 with fail; generalize (w.alloc (.cells #[.int .i64 n, .int .i64 d, .int .i64 x, .int .i64 s, .int .i64 g, .slice a m c, .int .i64 o] 88)).alloc (.cells #[.int .i64 lo, .int .i64 hi] 25) = v at *; generalize w.heap.size + 1 = jp at *
    obtain ⟨p0, p1, p2, p3, p4⟩ := id P; obtain ⟨g0, g1, g2, g3, g4, g5, g6, g7, f1, f2, f3, f4, f5, f6, f7⟩ := id G; go_wp2_with fail; refine (CP _ (HS.out.below B)).mono ?_; rintro e v2 ⟨rfl, hb⟩; clear g0 g1 g2 g3 g4 g5 g6 g7 f1 f2 f3 f4 f5 f6 f7; clear p0 p1 p2 p3 p4; replace G := G.below hb; replace P := P.below hb; replace B := B.trans (hb.mono B.size); clear hb; clear CP
    obtain ⟨g0, g1, g2, g3, g4, g5, g6, g7, f1, f2, f3, f4, f5, f6, f7⟩ := id G; go_wp2_with fail; refine (CO _).mono ?_; rintro e w' ⟨rfl, rfl⟩; clear g0 g1 g2 g3 g4 g5 g6 g7 f1 f2 f3 f4 f5 f6 f7; clear CO
    obtain ⟨g0, g1, g2, g3, g4, g5, g6, g7, f1, f2, f3, f4, f5, f6, f7⟩ := id G; go_wp2_with fail; refine (CF _ (E.em.below B)).mono ?_; rintro e v4 ⟨⟨u, rfl, hv⟩, hb⟩; clear g0 g1 g2 g3 g4 g5 g6 g7 f1 f2 f3 f4 f5 f6 f7; replace G := G.below hb; replace P := P.below hb; replace B := B.trans (hb.mono B.size); clear hb; clear CF; go_wp2_with fail; go_ret; exact ⟨⟨_, rfl, by rw [HF.out]; exact hv⟩, B⟩
  · cases h1 : okI lo hi
    · have HF : Hid (gaP true lo hi n d x (plB s g M m) o = false) := ga_iv h1
      rw [h1] at CI
      clear h1 CP CO CF
      go_enter Tryd.func82, Tryd.ntmps82; go_upto_region 1 with fail; generalize (w.alloc (.cells #[.int .i64 n, .int .i64 d, .int .i64 x, .int .i64 s, .int .i64 g, .slice a m c, .int .i64 o] 88)).alloc (.cells #[.int .i64 lo, .int .i64 hi] 25) = v at *; generalize w.heap.size + 1 = jp at *
      obtain ⟨p0, p1, p2, p3, p4⟩ := id P; go_wp2_with fail; refine (CI _).mono ?_; rintro e v1 ⟨rfl, hb⟩; clear p0 p1 p2 p3 p4; replace G := G.below hb; replace P := P.below hb; replace B := B.trans (hb.mono B.size); clear hb; clear CI
      obtain ⟨a1, q1⟩ := (E.1.below B).cell; go_wp2_with fail; go_ret; exact ⟨⟨_, rfl, fv_no HF.out a1⟩, B⟩
    rw [h1] at CI
    cases h2 : plB s g M m
    · have HF : Hid (gaP true lo hi n d x false o = false) := ga_pl rfl
      rw [h2] at CP
      clear h1 h2 CO CF
      go_enter Tryd.func82, Tryd.ntmps82; go_upto_region 1 with fail; generalize (w.alloc (.cells #[.int .i64 n, .int .i64 d, .int .i64 x, .int .i64 s, .int .i64 g, .slice a m c, .int .i64 o] 88)).alloc (.cells #[.int .i64 lo, .int .i64 hi] 25) = v at *; generalize w.heap.size + 1 = jp at *
      obtain ⟨p0, p1, p2, p3, p4⟩ := id P; go_wp2_with fail; refine (CI _).mono ?_; rintro e v1 ⟨rfl, hb⟩; clear p0 p1 p2 p3 p4; replace G := G.below hb; replace P := P.below hb; replace B := B.trans (hb.mono B.size); clear hb; clear CI
      obtain ⟨g0, g1, g2, g3, g4, g5, g6, g7, f1, f2, f3, f4, f5, f6, f7⟩ := id G; go_wp2_with fail; refine (CP _ (HS.out.below B)).mono ?_; rintro e v2 ⟨rfl, hb⟩; clear g0 g1 g2 g3 g4 g5 g6 g7 f1 f2 f3 f4 f5 f6 f7; replace G := G.below hb; replace P := P.below hb; replace B := B.trans (hb.mono B.size); clear hb; clear CP
      obtain ⟨a1, q1⟩ := (E.2.2.2.1.below B).cell; go_wp2_with fail; go_ret; exact ⟨⟨_, rfl, fv_no HF.out a1⟩, B⟩
    cases h3 : nodB o
    · have HF : Hid (gaP true lo hi n d x true o = false) := ga_nd h3
      rw [h2] at CP
      rw [h3] at CO
      clear h1 h2 h3 CF
      go_enter Tryd.func82, Tryd.ntmps82; go_upto_region 1 with fail; generalize (w.alloc (.cells #[.int .i64 n, .int .i64 d, .int .i64 x, .int .i64 s, .int .i64 g, .slice a m c, .int .i64 o] 88)).alloc (.cells #[.int .i64 lo, .int .i64 hi] 25) = v at *; generalize w.heap.size + 1 = jp at *
      obtain ⟨p0, p1, p2, p3, p4⟩ := id P; go_wp2_with fail; refine (CI _).mono ?_; rintro e v1 ⟨rfl, hb⟩; clear p0 p1 p2 p3 p4; replace G := G.below hb; replace P := P.below hb; replace B := B.trans (hb.mono B.size); clear hb; clear CI
      obtain ⟨g0, g1, g2, g3, g4, g5, g6, g7, f1, f2, f3, f4, f5, f6, f7⟩ := id G; go_wp2_with fail; refine (CP _ (HS.out.below B)).mono ?_; rintro e v2 ⟨rfl, hb⟩; clear g0 g1 g2 g3 g4 g5 g6 g7 f1 f2 f3 f4 f5 f6 f7; replace G := G.below hb; replace P := P.below hb; replace B := B.trans (hb.mono B.size); clear hb; clear CP
      obtain ⟨g0, g1, g2, g3, g4, g5, g6, g7, f1, f2, f3, f4, f5, f6, f7⟩ := id G; go_wp2_with fail; refine (CO _).mono ?_; rintro e w' ⟨rfl, rfl⟩; clear g0 g1 g2 g3 g4 g5 g6 g7 f1 f2 f3 f4 f5 f6 f7; clear CO
      obtain ⟨a1, q1⟩ := (E.2.2.2.2.1.below B).cell; go_wp2_with fail; go_ret; exact ⟨⟨_, rfl, fv_no HF.out a1⟩, B⟩
    have HF : Hid (gaP true lo hi n d x true o = frB n d x) := ga_fr (by rw [h1]; rfl) rfl h3
    rw [h2] at CP
    rw [h3] at CO
    clear h1 h2 h3
    go_enter Tryd.func82, Tryd.ntmps82; go_upto_region 1 with fail; generalize (w.alloc (.cells #[.int .i64 n, .int .i64 d, .int .i64 x, .int .i64 s, .int .i64 g, .slice a m c, .int .i64 o] 88)).alloc (.cells #[.int .i64 lo, .int .i64 hi] 25) = v at *; generalize w.heap.size + 1 = jp at *
    obtain ⟨p0, p1, p2, p3, p4⟩ := id P; go_wp2_with fail; refine (CI _).mono ?_; rintro e v1 ⟨rfl, hb⟩; clear p0 p1 p2 p3 p4; replace G := G.below hb; replace P := P.below hb; replace B := B.trans (hb.mono B.size); clear hb; clear CI
    obtain ⟨g0, g1, g2, g3, g4, g5, g6, g7, f1, f2, f3, f4, f5, f6, f7⟩ := id G; go_wp2_with fail; refine (CP _ (HS.out.below B)).mono ?_; rintro e v2 ⟨rfl, hb⟩; clear g0 g1 g2 g3 g4 g5 g6 g7 f1 f2 f3 f4 f5 f6 f7; replace G := G.below hb; replace P := P.below hb; replace B := B.trans (hb.mono B.size); clear hb; clear CP
    obtain ⟨g0, g1, g2, g3, g4, g5, g6, g7, f1, f2, f3, f4, f5, f6, f7⟩ := id G; go_wp2_with fail; refine (CO _).mono ?_; rintro e w' ⟨rfl, rfl⟩; clear g0 g1 g2 g3 g4 g5 g6 g7 f1 f2 f3 f4 f5 f6 f7; clear CO
    obtain ⟨g0, g1, g2, g3, g4, g5, g6, g7, f1, f2, f3, f4, f5, f6, f7⟩ := id G; go_wp2_with fail; refine (CF _ (E.em.below B)).mono ?_; rintro e v4 ⟨⟨u, rfl, hv⟩, hb⟩; clear g0 g1 g2 g3 g4 g5 g6 g7 f1 f2 f3 f4 f5 f6 f7; replace G := G.below hb; replace P := P.below hb; replace B := B.trans (hb.mono B.size); clear hb; clear CF; go_wp2_with fail; go_ret; exact ⟨⟨_, rfl, by rw [HF.out]; exact hv⟩, B⟩
/- Where a frame goes: told, or not. -/
def plQ (kn : Bool) (lo hi n d x s g : Int) (M : Nat → SlT) (m : Nat) (o : Int) : Bool := kn && (gsB lo hi n d x && isB s g M m o (gsL lo hi n d x) (gsH lo hi n d x))
def plI (kn : Bool) (lo hi n d x s g : Int) (M : Nat → SlT) (m : Nat) (o : Int) : Int := sel (plQ kn lo hi n d x s g M m o) (isI s g M m o (gsL lo hi n d x) (gsH lo hi n d x))
def plK (kn : Bool) (lo hi n d x s g : Int) (M : Nat → SlT) (m : Nat) (o : Int) : Int := sel (plQ kn lo hi n d x s g M m o) (isK s g M m o (gsL lo hi n d x) (gsH lo hi n d x))
theorem pl_no {kn : Bool} {lo hi n d x s g : Int} {M : Nat → SlT} {m : Nat} {o : Int} (e : plQ kn lo hi n d x s g M m o = false) : plI kn lo hi n d x s g M m o = 0 ∧ plK kn lo hi n d x s g M m o = 0 := ⟨sel_f e _, sel_f e _⟩
theorem pl_yes {kn : Bool} {lo hi n d x s g : Int} {M : Nat → SlT} {m : Nat} {o : Int} (e : plQ kn lo hi n d x s g M m o = true) : plI kn lo hi n d x s g M m o = isI s g M m o (gsL lo hi n d x) (gsH lo hi n d x) ∧ plK kn lo hi n d x s g M m o = isK s g M m o (gsL lo hi n d x) (gsH lo hi n d x) := ⟨sel_t e _, sel_t e _⟩
set_option maxRecDepth 100000 in
set_option maxHeartbeats 16000000 in
theorem gatePlace_any (kn : Bool) (lo hi n d x s g : Int) (a : Option Addr) (m c : Nat) (M : Nat → SlT) (o : Int) (w : World) (E : EW w) (hm : m ≤ maxLen) (hs : SrcC w a (m * 2) (MFSlot M)) :
    Calls Tryd.prog 83 #[.agg #[.int .i64 n, .int .i64 d, .int .i64 x, .int .i64 s, .int .i64 g, .slice a m c, .int .i64 o], .agg #[.int .i64 lo, .int .i64 hi], .bool kn] w fun e w' => (∃ v, e = .returned (.tuple #[.int .i64 (plI kn lo hi n d x s g M m o), .int .i64 (plK kn lo hi n d x s g M m o), v]) ∧ Fv (plQ kn lo hi n d x s g M m o) v) ∧ Below w.heap.size w w' := by
  have A0 := Below.nw w (.cells #[.int .i64 n, .int .i64 d, .int .i64 x, .int .i64 s, .int .i64 g, .slice a m c, .int .i64 o] 88)
  have A1 := Below.nw (w.alloc (.cells #[.int .i64 n, .int .i64 d, .int .i64 x, .int .i64 s, .int .i64 g, .slice a m c, .int .i64 o] 88)) (.cells #[.int .i64 lo, .int .i64 hi] 25)
  have G := (Tx7.new w (.int .i64 n) (.int .i64 d) (.int .i64 x) (.int .i64 s) (.int .i64 g) (.slice a m c) (.int .i64 o) 88).below A1
  have P := Bx2.new (w.alloc (.cells #[.int .i64 n, .int .i64 d, .int .i64 x, .int .i64 s, .int .i64 g, .slice a m c, .int .i64 o] 88)) (.int .i64 lo) (.int .i64 hi) 25
  have B := A0.trans (A1.mono A0.size)
  simp only [World.size_alloc] at P
  clear A0 A1
  have HS : Hid (SrcC w a (m * 2) (MFSlot M)) := hs
  clear hs
  have CW := fun w' E => outSpan_any lo hi n d x w' E
  have CS := fun w' h => implInSlot_any s g a m c M o (gsL lo hi n d x) (gsH lo hi n d x) w' hm h
  have nN := neNo
  have nY := neYes
  cases kn
  · have HF : Hid (plQ false lo hi n d x s g M m o = false) := rfl
    rw [(pl_no HF.out).1, (pl_no HF.out).2]
    clear CW CS
    go_enter Tryd.func83, Tryd.ntmps83; go_upto_region 1 with fail; generalize (w.alloc (.cells #[.int .i64 n, .int .i64 d, .int .i64 x, .int .i64 s, .int .i64 g, .slice a m c, .int .i64 o] 88)).alloc (.cells #[.int .i64 lo, .int .i64 hi] 25) = v at *; generalize w.heap.size + 1 = jp at *
    obtain ⟨a1, q1⟩ := (E.2.2.2.2.2.1.below B).cell
    go_wp2_with fail
    go_quiet (fail)
    go_wp2_with fail
    exact bodyPost_ret (v := (.tuple #[.int .i64 0, .int .i64 0, (.iface 169 (.pointer (some a1)))])) (by simp (maxDischargeDepth := 6) [results, Tryd.results83, go_sem, *]) rfl ⟨⟨_, rfl, fv_no HF.out a1⟩, below_dq B nq⟩
  have HQ : Hid (plQ true lo hi n d x s g M m o = (gsB lo hi n d x && isB s g M m o (gsL lo hi n d x) (gsH lo hi n d x))) := by unfold Hid plQ; rfl
  have HN : Hid (plQ true lo hi n d x s g M m o = false → plI true lo hi n d x s g M m o = 0 ∧ plK true lo hi n d x s g M m o = 0) := pl_no
  have HY : Hid (plQ true lo hi n d x s g M m o = true → plI true lo hi n d x s g M m o = isI s g M m o (gsL lo hi n d x) (gsH lo hi n d x) ∧ plK true lo hi n d x s g M m o = isK s g M m o (gsL lo hi n d x) (gsH lo hi n d x)) := pl_yes
  generalize plQ true lo hi n d x s g M m o = QB at *
  generalize plI true lo hi n d x s g M m o = QI at *
  generalize plK true lo hi n d x s g M m o = QK at *
  generalize gsL lo hi n d x = X at *
  generalize gsH lo hi n d x = Y at *
  generalize gsB lo hi n d x = Q at *
  go_enter Tryd.func83, Tryd.ntmps83; go_upto_region 1 with fail; generalize (w.alloc (.cells #[.int .i64 n, .int .i64 d, .int .i64 x, .int .i64 s, .int .i64 g, .slice a m c, .int .i64 o] 88)).alloc (.cells #[.int .i64 lo, .int .i64 hi] 25) = v at *; generalize w.heap.size + 1 = jp at *
  obtain ⟨g0, g1, g2, g3, g4, g5, g6, g7, f1, f2, f3, f4, f5, f6, f7⟩ := id G
  obtain ⟨p0, p1, p2, p3, p4⟩ := id P
  go_wp2_with fail
  refine (CW _ (E.es.below B)).mono ?_
  rintro e v1 ⟨⟨u, rfl, hv⟩, hb⟩
  clear g0 g1 g2 g3 g4 g5 g6 g7 f1 f2 f3 f4 f5 f6 f7
  clear p0 p1 p2 p3 p4
  replace G := G.below hb; replace P := P.below hb; replace B := B.trans (hb.mono B.size); clear hb
  clear CW P
  have NL := Below.nw v1 (.cells #[.int .i64 X, .int .i64 Y] 25)
  have Z := Bx2.new v1 (.int .i64 X) (.int .i64 Y) 25
  cases Q
  · obtain ⟨a1, rfl⟩ := hv
    obtain rfl : QB = false := HQ.out
    obtain ⟨rfl, rfl⟩ := HN.out rfl
    clear HQ HN HY CS
    replace B := B.trans (NL.mono B.size)
    clear Z NL
    go_wp2_with fail
    exact bodyPost_ret (v := (.tuple #[.int .i64 0, .int .i64 0, (.iface 169 (.pointer (some a1)))])) (by simp (maxDischargeDepth := 6) [results, Tryd.results83, go_sem, *]) rfl ⟨⟨_, rfl, fv_no rfl a1⟩, B⟩
  obtain rfl := hv
  go_upto_region 4 with fail
  replace G := G.below NL
  replace B := B.trans (NL.mono B.size)
  clear NL
  generalize v1.alloc (.cells #[.int .i64 X, .int .i64 Y] 25) = v2 at *
  generalize v1.heap.size = jz at *
  obtain ⟨g0, g1, g2, g3, g4, g5, g6, g7, f1, f2, f3, f4, f5, f6, f7⟩ := id G
  obtain ⟨z0, z1, z2, z3, z4⟩ := id Z
  go_wp2_with fail
  refine (CS _ (HS.out.below B)).mono ?_
  rintro e v3 ⟨rfl, hb⟩
  clear g0 g1 g2 g3 g4 g5 g6 g7 f1 f2 f3 f4 f5 f6 f7
  clear z0 z1 z2 z3 z4
  replace B := B.trans (hb.mono B.size)
  clear hb CS Z G
  generalize isI s g M m o X Y = iI at *
  generalize isK s g M m o X Y = iK at *
  generalize isB s g M m o X Y = iB at *
  cases iB
  · obtain rfl : QB = false := HQ.out
    obtain ⟨rfl, rfl⟩ := HN.out rfl
    clear HQ HN HY
    obtain ⟨a1, q1⟩ := (E.2.2.2.2.2.2.2.below B).cell
    go_wp2_with fail
    go_quiet (fail)
    go_wp2_with fail
    exact bodyPost_ret (v := (.tuple #[.int .i64 0, .int .i64 0, (.iface 169 (.pointer (some a1)))])) (by simp (maxDischargeDepth := 6) [results, Tryd.results83, go_sem, *]) rfl ⟨⟨_, rfl, fv_no rfl a1⟩, below_dq B nq⟩
  · obtain rfl : QB = true := HQ.out
    obtain ⟨rfl, rfl⟩ := HY.out rfl
    clear HQ HN HY
    go_wp2_with fail
    exact bodyPost_ret (v := (.tuple #[.int .i64 QI, .int .i64 QK, .nilIface])) (by simp (maxDischargeDepth := 6) [results, Tryd.results83, go_sem, *]) rfl ⟨⟨_, rfl, fv_yes rfl⟩, B⟩
/- What the gate answers: no error where it goes, a refusal with the code that applies where it doesn't. -/
def Av (c : Int) (v : Value) : Prop := (c = 0 ∧ v = .nilIface) ∨ (¬ c = 0 ∧ ∃ a : Addr, v = .iface 92 (.agg #[.int .i64 c, .iface 169 (.pointer (some a))]))
set_option maxRecDepth 100000 in
set_option maxHeartbeats 16000000 in
theorem gateAsk_any (kn : Bool) (lo hi n d x s g : Int) (a : Option Addr) (m c : Nat) (M : Nat → SlT) (o : Int) (w : World) (E : EW w) (hm : m ≤ maxLen) (hs : SrcC w a (m * 2) (MFSlot M)) :
    Calls Tryd.prog 47 #[.agg #[.int .i64 n, .int .i64 d, .int .i64 x, .int .i64 s, .int .i64 g, .slice a m c, .int .i64 o], .agg #[.int .i64 lo, .int .i64 hi], .bool kn] w fun e w' => (∃ v, e = .returned (.tuple #[.int .i64 (gaI kn lo hi n d x s g M m o), .int .i64 (gaK kn lo hi n d x s g M m o), v]) ∧ Av (gaC kn lo hi n d x s g M m o) v) ∧ Below w.heap.size w w' := by
  have A0 := Below.nw w (.cells #[.int .i64 n, .int .i64 d, .int .i64 x, .int .i64 s, .int .i64 g, .slice a m c, .int .i64 o] 88)
  have A1 := Below.nw (w.alloc (.cells #[.int .i64 n, .int .i64 d, .int .i64 x, .int .i64 s, .int .i64 g, .slice a m c, .int .i64 o] 88)) (.cells #[.int .i64 lo, .int .i64 hi] 25)
  have G := (Tx7.new w (.int .i64 n) (.int .i64 d) (.int .i64 x) (.int .i64 s) (.int .i64 g) (.slice a m c) (.int .i64 o) 88).below A1
  have P := Bx2.new (w.alloc (.cells #[.int .i64 n, .int .i64 d, .int .i64 x, .int .i64 s, .int .i64 g, .slice a m c, .int .i64 o] 88)) (.int .i64 lo) (.int .i64 hi) 25
  have B := A0.trans (A1.mono A0.size)
  simp only [World.size_alloc] at P
  clear A0 A1
  have HS : Hid (SrcC w a (m * 2) (MFSlot M)) := hs
  clear hs
  have CF := fun w' E h => gateFault_any kn lo hi n d x s g a m c M o w' E hm h
  have CL := fun w' E h => gatePlace_any kn lo hi n d x s g a m c M o w' E hm h
  have nN := neNo
  have nY := neYes
  cases h1 : gaP kn lo hi n d x (plB s g M m) o
  · have HR : Hid (gaC kn lo hi n d x s g M m o = 1 ∧ gaI kn lo hi n d x s g M m o = 0 ∧ gaK kn lo hi n d x s g M m o = 0) := ga_bad h1
    rw [HR.out.2.1, HR.out.2.2]
    rw [h1] at CF
    clear h1 CL
    go_enter Tryd.func47, Tryd.ntmps47; go_upto_region 1 with fail; generalize (w.alloc (.cells #[.int .i64 n, .int .i64 d, .int .i64 x, .int .i64 s, .int .i64 g, .slice a m c, .int .i64 o] 88)).alloc (.cells #[.int .i64 lo, .int .i64 hi] 25) = v at *; generalize w.heap.size + 1 = jp at *
    obtain ⟨g0, g1, g2, g3, g4, g5, g6, g7, f1, f2, f3, f4, f5, f6, f7⟩ := id G
    obtain ⟨p0, p1, p2, p3, p4⟩ := id P
    go_wp2_with fail
    refine (CF _ (E.below B) (HS.out.below B)).mono ?_
    rintro e v1 ⟨⟨u, rfl, a1, rfl⟩, hb⟩
    clear g0 g1 g2 g3 g4 g5 g6 g7 f1 f2 f3 f4 f5 f6 f7
    clear p0 p1 p2 p3 p4
    replace G := G.below hb; replace P := P.below hb; replace B := B.trans (hb.mono B.size); clear hb
    go_wp2_with fail
    exact bodyPost_ret (v := (.tuple #[.int .i64 0, .int .i64 0, (.iface 92 (.agg #[.int .i64 1, .iface 169 (.pointer (some a1))]))])) (by simp (maxDischargeDepth := 6) [results, Tryd.results47, go_sem, *]) rfl ⟨⟨_, rfl, by rw [HR.out.1]; exact .inr ⟨by decide, a1, rfl⟩⟩, B⟩
  have hG : gaG kn lo hi n d x s g M m o = plQ kn lo hi n d x s g M m o := by unfold gaG plQ; rw [h1]; rfl
  rw [h1] at CF
  cases h2 : plQ kn lo hi n d x s g M m o
  · have HR : Hid (gaC kn lo hi n d x s g M m o = 2 ∧ gaI kn lo hi n d x s g M m o = 0 ∧ gaK kn lo hi n d x s g M m o = 0) := ga_un h1 (hG.trans h2)
    rw [HR.out.2.1, HR.out.2.2]
    rw [(pl_no h2).1, (pl_no h2).2, h2] at CL
    clear h1 h2 hG
    go_enter Tryd.func47, Tryd.ntmps47; go_upto_region 1 with fail; generalize (w.alloc (.cells #[.int .i64 n, .int .i64 d, .int .i64 x, .int .i64 s, .int .i64 g, .slice a m c, .int .i64 o] 88)).alloc (.cells #[.int .i64 lo, .int .i64 hi] 25) = v at *; generalize w.heap.size + 1 = jp at *
    obtain ⟨g0, g1, g2, g3, g4, g5, g6, g7, f1, f2, f3, f4, f5, f6, f7⟩ := id G
    obtain ⟨p0, p1, p2, p3, p4⟩ := id P
    go_wp2_with fail
    refine (CF _ (E.below B) (HS.out.below B)).mono ?_
    rintro e v1 ⟨⟨u, rfl, rfl⟩, hb⟩
    clear g0 g1 g2 g3 g4 g5 g6 g7 f1 f2 f3 f4 f5 f6 f7
    clear p0 p1 p2 p3 p4
    replace G := G.below hb; replace P := P.below hb; replace B := B.trans (hb.mono B.size); clear hb
    obtain ⟨g0, g1, g2, g3, g4, g5, g6, g7, f1, f2, f3, f4, f5, f6, f7⟩ := id G
    obtain ⟨p0, p1, p2, p3, p4⟩ := id P
    go_wp2_with fail
    refine (CL _ (E.below B) (HS.out.below B)).mono ?_
    rintro e v2 ⟨⟨u, rfl, a1, rfl⟩, hb⟩
    clear g0 g1 g2 g3 g4 g5 g6 g7 f1 f2 f3 f4 f5 f6 f7
    clear p0 p1 p2 p3 p4
    replace G := G.below hb; replace P := P.below hb; replace B := B.trans (hb.mono B.size); clear hb
    go_wp2_with fail
    exact bodyPost_ret (v := (.tuple #[.int .i64 0, .int .i64 0, (.iface 92 (.agg #[.int .i64 2, .iface 169 (.pointer (some a1))]))])) (by simp (maxDischargeDepth := 6) [results, Tryd.results47, go_sem, *]) rfl ⟨⟨_, rfl, by rw [HR.out.1]; exact .inr ⟨by decide, a1, rfl⟩⟩, B⟩
  have HR : Hid (gaC kn lo hi n d x s g M m o = 0 ∧ gaI kn lo hi n d x s g M m o = plI kn lo hi n d x s g M m o ∧ gaK kn lo hi n d x s g M m o = plK kn lo hi n d x s g M m o) := by
    obtain ⟨e1, e2, e3⟩ := ga_go (hG.trans h2)
    exact ⟨e1, e2.trans (pl_yes h2).1.symm, e3.trans (pl_yes h2).2.symm⟩
  rw [HR.out.2.1, HR.out.2.2]
  rw [h2] at CL
  clear h1 h2 hG
  generalize plI kn lo hi n d x s g M m o = QI at *
  generalize plK kn lo hi n d x s g M m o = QK at *
  go_enter Tryd.func47, Tryd.ntmps47; go_upto_region 1 with fail; generalize (w.alloc (.cells #[.int .i64 n, .int .i64 d, .int .i64 x, .int .i64 s, .int .i64 g, .slice a m c, .int .i64 o] 88)).alloc (.cells #[.int .i64 lo, .int .i64 hi] 25) = v at *; generalize w.heap.size + 1 = jp at *
  obtain ⟨g0, g1, g2, g3, g4, g5, g6, g7, f1, f2, f3, f4, f5, f6, f7⟩ := id G
  obtain ⟨p0, p1, p2, p3, p4⟩ := id P
  go_wp2_with fail
  refine (CF _ (E.below B) (HS.out.below B)).mono ?_
  rintro e v1 ⟨⟨u, rfl, rfl⟩, hb⟩
  clear g0 g1 g2 g3 g4 g5 g6 g7 f1 f2 f3 f4 f5 f6 f7
  clear p0 p1 p2 p3 p4
  replace G := G.below hb; replace P := P.below hb; replace B := B.trans (hb.mono B.size); clear hb
  obtain ⟨g0, g1, g2, g3, g4, g5, g6, g7, f1, f2, f3, f4, f5, f6, f7⟩ := id G
  obtain ⟨p0, p1, p2, p3, p4⟩ := id P
  go_wp2_with fail
  refine (CL _ (E.below B) (HS.out.below B)).mono ?_
  rintro e v2 ⟨⟨u, rfl, rfl⟩, hb⟩
  clear g0 g1 g2 g3 g4 g5 g6 g7 f1 f2 f3 f4 f5 f6 f7
  clear p0 p1 p2 p3 p4
  replace G := G.below hb; replace P := P.below hb; replace B := B.trans (hb.mono B.size); clear hb
  go_wp2_with fail
  exact bodyPost_ret (v := (.tuple #[.int .i64 QI, .int .i64 QK, .nilIface])) (by simp (maxDischargeDepth := 6) [results, Tryd.results47, go_sem, *]) rfl ⟨⟨_, rfl, by rw [HR.out.1]; exact .inl ⟨rfl, rfl⟩⟩, B⟩
theorem eqRf (v : Value) (w : World) : (binOp .eql 83 (.iface 92 v) .nilIface).run Tryd.prog w = .ok (.bool false) w := run_eql_iface_nil w 83 (by kernel_rfl) _ _
set_option maxRecDepth 100000 in
set_option maxHeartbeats 16000000 in
theorem goesAt_any (kn : Bool) (lo hi h n d x s g : Int) (a : Option Addr) (m c : Nat) (M : Nat → SlT) (o t : Int) (w : World) (E : EW w) (hm : m ≤ maxLen) (hs : SrcC w a (m * 2) (MFSlot M)) :
    Calls Tryd.prog 75 #[.agg #[.int .i64 n, .int .i64 d, .int .i64 x, .int .i64 s, .int .i64 g, .slice a m c, .int .i64 o], .agg #[.bool kn, .int .i64 lo, .int .i64 hi, .int .i64 h], .int .i64 t] w fun e w' => e = .returned (.bool ((crC kn lo hi h n d t == 0) && (gaC true (crL kn lo hi h n d t) (crH kn lo hi h n d t) n d x s g M m o == 0))) ∧ Below w.heap.size w w' := by
  have A0 := Below.nw w (.cells #[.int .i64 n, .int .i64 d, .int .i64 x, .int .i64 s, .int .i64 g, .slice a m c, .int .i64 o] 88)
  have A1 := Below.nw (w.alloc (.cells #[.int .i64 n, .int .i64 d, .int .i64 x, .int .i64 s, .int .i64 g, .slice a m c, .int .i64 o] 88)) (.cells #[.bool kn, .int .i64 lo, .int .i64 hi, .int .i64 h] 64)
  have G := (Tx7.new w (.int .i64 n) (.int .i64 d) (.int .i64 x) (.int .i64 s) (.int .i64 g) (.slice a m c) (.int .i64 o) 88).below A1
  have L := BoxL.new (w.alloc (.cells #[.int .i64 n, .int .i64 d, .int .i64 x, .int .i64 s, .int .i64 g, .slice a m c, .int .i64 o] 88)) kn lo hi h 64
  have B := A0.trans (A1.mono A0.size)
  simp only [World.size_alloc] at L
  clear A0 A1
  have HS : Hid (SrcC w a (m * 2) (MFSlot M)) := hs
  clear hs
  have CR := fun w' => implCarryOn_any kn lo hi h n d t w'
  have CK := fun w' E hh => gateAsk_any true (crL kn lo hi h n d t) (crH kn lo hi h n d t) n d x s g a m c M o w' E hm hh
  have eN := eqRf
  have eY := eqYes
  generalize gaI true (crL kn lo hi h n d t) (crH kn lo hi h n d t) n d x s g M m o = GI at *
  generalize gaK true (crL kn lo hi h n d t) (crH kn lo hi h n d t) n d x s g M m o = GK at *
  generalize gaC true (crL kn lo hi h n d t) (crH kn lo hi h n d t) n d x s g M m o = GC at *
  generalize crL kn lo hi h n d t = X at *
  generalize crH kn lo hi h n d t = Y at *
  generalize crC kn lo hi h n d t = Q at *
  go_enter Tryd.func75, Tryd.ntmps75
  go_upto_region 1 with fail
  generalize (w.alloc (.cells #[.int .i64 n, .int .i64 d, .int .i64 x, .int .i64 s, .int .i64 g, .slice a m c, .int .i64 o] 88)).alloc (.cells #[.bool kn, .int .i64 lo, .int .i64 hi, .int .i64 h] 64) = v at *
  generalize w.heap.size + 1 = jl at *
  obtain ⟨g0, g1, g2, g3, g4, g5, g6, g7, f1, f2, f3, f4, f5, f6, f7⟩ := id G
  obtain ⟨l0, l1, l2, l3, l4, l5, l6, l7, l8⟩ := id L
  go_wp2_with fail
  refine (CR _).mono ?_
  rintro e v1 ⟨rfl, hb⟩
  clear g0 g1 g2 g3 g4 g5 g6 g7 f1 f2 f3 f4 f5 f6 f7
  clear l0 l1 l2 l3 l4 l5 l6 l7 l8
  replace G := G.below hb
  replace B := B.trans (hb.mono B.size)
  clear hb CR L
  have NL := Below.nw v1 (.cells #[.int .i64 X, .int .i64 Y] 25)
  have Z := Bx2.new v1 (.int .i64 X) (.int .i64 Y) 25
  go_upto_region 2 with fail
  replace G := G.below NL
  replace B := B.trans (NL.mono B.size)
  clear NL
  generalize v1.alloc (.cells #[.int .i64 X, .int .i64 Y] 25) = v2 at *
  generalize v1.heap.size = jz at *
  by_cases q1 : Q = 0
  · subst q1
    obtain ⟨g0, g1, g2, g3, g4, g5, g6, g7, f1, f2, f3, f4, f5, f6, f7⟩ := id G
    obtain ⟨z0, z1, z2, z3, z4⟩ := id Z
    go_wp2_with fail
    refine (CK _ (E.below B) (HS.out.below B)).mono ?_
    rintro e v3 ⟨⟨u, rfl, hv⟩, hb⟩
    clear g0 g1 g2 g3 g4 g5 g6 g7 f1 f2 f3 f4 f5 f6 f7
    clear z0 z1 z2 z3 z4
    replace B := B.trans (hb.mono B.size)
    clear hb CK
    rcases hv with ⟨rfl, rfl⟩ | ⟨q2, a1, rfl⟩
    · go_wp2_with fail
      go_ret
      exact ⟨rfl, B⟩
    · have HZ : Hid ((GC == 0) = false) := beq_eq_false_iff_ne.2 q2
      go_wp2_with fail
      go_ret
      exact ⟨by rw [HZ.out]; rfl, B⟩
  · have HZ : Hid ((Q == 0) = false) := beq_eq_false_iff_ne.2 q1
    clear CK
    go_wp2_with fail
    go_ret
    exact ⟨by rw [HZ.out]; rfl, B⟩
set_option maxRecDepth 100000 in
set_option maxHeartbeats 16000000 in
theorem implGateWait_any (kn : Bool) (lo hi h n d x s g : Int) (a : Option Addr) (m c : Nat) (M : Nat → SlT) (o t y : Int) (w : World) (E : EW w) (hm : m ≤ maxLen) (hs : SrcC w a (m * 2) (MFSlot M)) :
    Calls Tryd.prog 33 #[.agg #[.bool kn, .int .i64 lo, .int .i64 hi, .int .i64 h], .agg #[.int .i64 n, .int .i64 d], .int .i64 x, .agg #[.int .i64 s, .int .i64 g, .slice a m c], .int .i64 o, .int .i64 t, .int .i64 y] w fun e w' => e = .returned (.tuple #[.int .i64 (gwI kn lo hi h n d x s g M m o t y), .bool (gwB kn lo hi h n d x s g M m o t y)]) ∧ Below w.heap.size w w' := by
  have A0 := Below.nw w (.cells #[.bool kn, .int .i64 lo, .int .i64 hi, .int .i64 h] 64)
  have A1 := Below.nw (w.alloc (.cells #[.bool kn, .int .i64 lo, .int .i64 hi, .int .i64 h] 64)) (.cells #[.int .i64 n, .int .i64 d] 27)
  have A2 := Below.nw ((w.alloc (.cells #[.bool kn, .int .i64 lo, .int .i64 hi, .int .i64 h] 64)).alloc (.cells #[.int .i64 n, .int .i64 d] 27)) (.cells #[.int .i64 s, .int .i64 g, .slice a m c] 30)
  have L := ((BoxL.new w kn lo hi h 64).below A1).below A2
  have D := (Bx2.new (w.alloc (.cells #[.bool kn, .int .i64 lo, .int .i64 hi, .int .i64 h] 64)) (.int .i64 n) (.int .i64 d) 27).below A2
  have N := Tx3.new ((w.alloc (.cells #[.bool kn, .int .i64 lo, .int .i64 hi, .int .i64 h] 64)).alloc (.cells #[.int .i64 n, .int .i64 d] 27)) (.int .i64 s) (.int .i64 g) (.slice a m c) 30
  have B := (A0.trans (A1.mono A0.size)).trans (A2.mono (A0.trans (A1.mono A0.size)).size)
  simp only [World.size_alloc] at D N
  clear A0 A1 A2
  have HS : Hid (SrcC w a (m * 2) (MFSlot M)) := hs
  clear hs
  have C2 := fun w' => isTime_any t w'
  have CF := fun w' => gateFor_any n d x s g a m c o w'
  cases h2 : okT t
  · have e1 : gwB kn lo hi h n d x s g M m o t y = false := by unfold gwB gwG; rw [h2]; simp
    have HR : Hid (gwB kn lo hi h n d x s g M m o t y = false ∧ gwI kn lo hi h n d x s g M m o t y = 0) := ⟨e1, gw_no e1⟩
    rw [h2] at C2
    clear e1 h2
    clear L D N HS CF; go_enter Tryd.func33, Tryd.ntmps33; go_upto_region 1 with fail; generalize ((w.alloc (.cells #[.bool kn, .int .i64 lo, .int .i64 hi, .int .i64 h] 64)).alloc (.cells #[.int .i64 n, .int .i64 d] 27)).alloc (.cells #[.int .i64 s, .int .i64 g, .slice a m c] 30) = v at *; generalize w.heap.size + 1 + 1 = jn at *; generalize w.heap.size + 1 = jd at *; go_wp2_with fail; refine (C2 _).mono ?_; rintro e w' ⟨rfl, rfl⟩; go_wp2_with fail; go_ret2; exact ⟨by rw [HR.out.1, HR.out.2]; rfl, B⟩
  by_cases h3 : y < 0
  · have e1 : gwB kn lo hi h n d x s g M m o t y = false := by unfold gwB gwG; rw [decide_eq_false (by omega)]; rfl
    have HR : Hid (gwB kn lo hi h n d x s g M m o t y = false ∧ gwI kn lo hi h n d x s g M m o t y = 0) := ⟨e1, gw_no e1⟩
    rw [h2] at C2
    clear e1 h2
    clear L D N HS CF; go_enter Tryd.func33, Tryd.ntmps33; go_upto_region 1 with fail; generalize ((w.alloc (.cells #[.bool kn, .int .i64 lo, .int .i64 hi, .int .i64 h] 64)).alloc (.cells #[.int .i64 n, .int .i64 d] 27)).alloc (.cells #[.int .i64 s, .int .i64 g, .slice a m c] 30) = v at *; generalize w.heap.size + 1 + 1 = jn at *; generalize w.heap.size + 1 = jd at *; go_wp2_with fail; refine (C2 _).mono ?_; rintro e w' ⟨rfl, rfl⟩; go_wp2_with fail; go_ret2; exact ⟨by rw [HR.out.1, HR.out.2]; rfl, B⟩
  by_cases h4 : 400 < y
  · have e1 : gwB kn lo hi h n d x s g M m o t y = false := by unfold gwB gwG; rw [decide_eq_false (by omega)]; rfl
    have HR : Hid (gwB kn lo hi h n d x s g M m o t y = false ∧ gwI kn lo hi h n d x s g M m o t y = 0) := ⟨e1, gw_no e1⟩
    rw [h2] at C2
    clear e1 h2
    clear L D N HS CF; go_enter Tryd.func33, Tryd.ntmps33; go_upto_region 1 with fail; generalize ((w.alloc (.cells #[.bool kn, .int .i64 lo, .int .i64 hi, .int .i64 h] 64)).alloc (.cells #[.int .i64 n, .int .i64 d] 27)).alloc (.cells #[.int .i64 s, .int .i64 g, .slice a m c] 30) = v at *; generalize w.heap.size + 1 + 1 = jn at *; generalize w.heap.size + 1 = jd at *; go_wp2_with fail; refine (C2 _).mono ?_; rintro e w' ⟨rfl, rfl⟩; go_wp2_with fail; go_ret2; exact ⟨by rw [HR.out.1, HR.out.2]; rfl, B⟩
  have HG : Hid (gwG t y = true) := by unfold Hid gwG; rw [h2, decide_eq_true (by omega)]; rfl
  have ht := okT_t h2
  rw [h2] at C2
  clear h2
  have hy : 0 ≤ y ∧ y ≤ 400 := by omega
  have hwy : IntKind.i64.wrap (y + 1) = y + 1 := Go.IntWalk.i64_in _ ⟨by omega, by omega⟩
  go_enter Tryd.func33, Tryd.ntmps33; go_upto_region 1 with fail; generalize ((w.alloc (.cells #[.bool kn, .int .i64 lo, .int .i64 hi, .int .i64 h] 64)).alloc (.cells #[.int .i64 n, .int .i64 d] 27)).alloc (.cells #[.int .i64 s, .int .i64 g, .slice a m c] 30) = v at *; generalize w.heap.size + 1 + 1 = jn at *; generalize w.heap.size + 1 = jd at *; go_wp2_with fail; refine (C2 _).mono ?_; rintro e w' ⟨rfl, rfl⟩
  clear C2
  obtain ⟨d0, d1, d2, d3, d4⟩ := id D
  obtain ⟨n0, n1, n2, n3, n4, n5, n6⟩ := id N
  go_wp2_with fail
  refine (CF _).mono ?_
  rintro e v1 ⟨rfl, hb⟩
  clear d0 d1 d2 d3 d4
  clear n0 n1 n2 n3 n4 n5 n6
  replace L := L.below hb
  replace B := B.trans (hb.mono B.size)
  clear hb CF D N h3 h4
  have NL := Below.nw v1 (.cells #[.int .i64 n, .int .i64 d, .int .i64 x, .int .i64 s, .int .i64 g, .slice a m c, .int .i64 o] 88)
  have G := Tx7.new v1 (.int .i64 n) (.int .i64 d) (.int .i64 x) (.int .i64 s) (.int .i64 g) (.slice a m c) (.int .i64 o) 88
  go_upto_region 4 with fail
  replace L := L.below NL
  replace B := B.trans (NL.mono B.size)
  clear NL
  generalize v1.alloc (.cells #[.int .i64 n, .int .i64 d, .int .i64 x, .int .i64 s, .int .i64 g, .slice a m c, .int .i64 o] 88) = v2 at *
  generalize v1.heap.size = jg at *
  go_wp2_with fail
  go_loopw [36] (fun i wr => ∃ (j : Nat), j ≤ y.toNat + 1 ∧ i = .int .i64 (j : Int) ∧ fnd (gwP kn lo hi h n d x s g M m o t) j = j ∧ BoxL wr w.heap.size kn lo hi h ∧ Tx7 wr jg (.int .i64 n) (.int .i64 d) (.int .i64 x) (.int .i64 s) (.int .i64 g) (.slice a m c) (.int .i64 o) ∧ Below w.heap.size w wr) (fun i _ => y.toNat + 1 - (intOf i).toNat)
  case atStart => exact ⟨0, Nat.zero_le _, rfl, rfl, L, G, B⟩
  case round =>
    clear L G B
    obtain ⟨j, hj2, rfl, hf, L, G, B⟩ := hrel
    by_cases hlt : (j : Int) < y + 1
    · have HLT : Hid (j + 1 ≤ y.toNat + 1) := by unfold Hid; omega
      have hw : IntKind.i64.wrap (t + (j : Int)) = t + (j : Int) := Go.IntWalk.i64_in _ ⟨by omega, by omega⟩
      have CK := fun w' E hh => goesAt_any kn lo hi h n d x s g a m c M o (t + (j : Int)) w' E hm hh
      have HP : Hid ((gwP kn lo hi h n d x s g M m o t) j = ((crC kn lo hi h n d (t + (j : Int)) == 0) && (gaC true (crL kn lo hi h n d (t + (j : Int))) (crH kn lo hi h n d (t + (j : Int))) n d x s g M m o == 0))) := rfl
      have HY : Hid ((gwP kn lo hi h n d x s g M m o t) j = true → gwB kn lo hi h n d x s g M m o t y = true ∧ gwI kn lo hi h n d x s g M m o t y = (j : Int)) := fun hp => gw_at HG.out hf hp (by omega)
      have HN : Hid ((gwP kn lo hi h n d x s g M m o t) j = false → fnd (gwP kn lo hi h n d x s g M m o t) (j + 1) = j + 1) := fun hp => fnd_miss hf hp
      clear hj2 hf HG
      generalize ((crC kn lo hi h n d (t + (j : Int)) == 0) && (gaC true (crL kn lo hi h n d (t + (j : Int))) (crH kn lo hi h n d (t + (j : Int))) n d x s g M m o == 0)) = Q at *
      obtain ⟨l0, l1, l2, l3, l4, l5, l6, l7, l8⟩ := id L
      obtain ⟨g0, g1, g2, g3, g4, g5, g6, g7, f1, f2, f3, f4, f5, f6, f7⟩ := id G
      go_wp2_with fail
      refine (CK _ (E.below B) (HS.out.below B)).mono ?_
      rintro e v4 ⟨rfl, hb⟩
      clear l0 l1 l2 l3 l4 l5 l6 l7 l8
      clear g0 g1 g2 g3 g4 g5 g6 g7 f1 f2 f3 f4 f5 f6 f7
      replace L := L.below hb
      replace G := G.below hb
      replace B := B.trans (hb.mono B.size)
      clear hb CK
      cases Q
      · have HR : Hid (fnd (gwP kn lo hi h n d x s g M m o t) (j + 1) = j + 1) := HN.out HP.out
        clear HY HN HP
        go_wp2_with fail
        go_roundw
        case rel => exact ⟨j + 1, HLT.out, by go_num, HR.out, L, G, B⟩
        case measure => have hlt' := HLT.out; simp [intOf]; omega
      · have HR : Hid (gwB kn lo hi h n d x s g M m o t y = true ∧ gwI kn lo hi h n d x s g M m o t y = (j : Int)) := HY.out HP.out
        clear HY HN HP
        go_wp2_with fail
        go_ret2
        exact ⟨by rw [HR.out.1, HR.out.2]; rfl, B⟩
    · have e1 := gw_end hf hy.1 hj2 (by omega)
      have HR : Hid (gwB kn lo hi h n d x s g M m o t y = false ∧ gwI kn lo hi h n d x s g M m o t y = 0) := ⟨e1, gw_no e1⟩
      clear e1 hf hj2
      go_wp2_with fail
      go_ret2
      exact ⟨by rw [HR.out.1, HR.out.2]; rfl, B⟩
end Go.Proofs.YtcakhfobkbgfoaaDoor
namespace Go.Proofs.YtcakhfobkbgfoaaDoor
open Go.RowKit Go.Extern.Stop Go.Stop Go.Extern
set_option linter.unusedVariables false
/- errors.As: of nil; where the error's own type is the target's. -/
theorem as_nil (t : Value) (w : World) : Calls Tryd.prog 48 #[.nilIface, t] w fun e w' => e = .returned (.bool false) ∧ w' = w := by
  go_enter Tryd.func48, Tryd.ntmps48
  go_wp2
  go_ret
  exact ⟨rfl, rfl⟩
/- What the library's look at types tells of these two. -/
theorem asTarget (j : Nat) (w : World) : (ReflectliteValue.unpack (.iface 94 (.pointer (some ⟨j, 0, none⟩)))).run Tryd.prog w = .ok (.agg #[.pointer (some ⟨9, 94, none⟩), .pointer (some ⟨w.heap.size, 0, none⟩), .int .u64 150]) (w.alloc (.cells #[.pointer (some ⟨j, 0, none⟩)] 94)) := by kernel_rfl
theorem asTargetType (a : Addr) (w : World) : (ReflectliteValue.methodAny (ReflectliteValue.valueError "reflectlite.Value.Type" 0) (fun t _ _ _ => ReflectliteType.toType t) #[.agg #[.pointer (some ⟨9, 94, none⟩), .pointer (some a), .int .u64 150]]).run Tryd.prog w = .ok (.iface 151 (.agg #[.pointer (some ⟨9, 94, none⟩)])) w := by kernel_rfl
theorem asMeth1 (h : Value) (w : World) : (Go.method 203 151 (.agg #[h]) "Kind").run Tryd.prog w = .ok (135, h) w := by kernel_rfl
theorem asMeth2 (h : Value) (w : World) : (Go.method 203 151 (.agg #[h]) "Elem").run Tryd.prog w = .ok (146, .agg #[h]) w := by kernel_rfl
theorem asMeth3 (h : Value) (w : World) : (Go.method 203 151 (.agg #[h]) "Implements").run Tryd.prog w = .ok (147, .agg #[h]) w := by kernel_rfl
theorem asMeth4 (h : Value) (w : World) : (Go.method 203 151 (.agg #[h]) "AssignableTo").run Tryd.prog w = .ok (144, .agg #[h]) w := by kernel_rfl
theorem asKindP (w : World) : ((ReflectliteType.abiMethod fun t => (fun a : Nat => Value.int IntKind.u8 (a : Int)) <$> Rtype.kind t) #[.pointer (some ⟨9, 94, none⟩)]).run Tryd.prog w = .ok (.int .u8 22) w := by kernel_rfl
theorem asKindE (w : World) : ((ReflectliteType.abiMethod fun t => (fun a : Nat => Value.int IntKind.u8 (a : Int)) <$> Rtype.kind t) #[.pointer (some ⟨9, 92, none⟩)]).run Tryd.prog w = .ok (.int .u8 25) w := by kernel_rfl
theorem asElemP (w : World) : (ReflectliteType.method ReflectliteType.elem #[.agg #[.pointer (some ⟨9, 94, none⟩)]]).run Tryd.prog w = .ok (.iface 151 (.agg #[.pointer (some ⟨9, 92, none⟩)])) w := by kernel_rfl
theorem asIsError (w : World) : (ReflectliteType.relation "Implements" ReflectliteType.implements_ #[.agg #[.pointer (some ⟨9, 92, none⟩)], .iface 151 (.agg #[.pointer (some ⟨9, 83, none⟩)])]).run Tryd.prog w = .ok (.bool true) w := by kernel_rfl
theorem asType (v : Value) (w : World) : (ReflectliteType.typeOf #[.iface 92 v]).run Tryd.prog w = .ok (.iface 151 (.agg #[.pointer (some ⟨9, 92, none⟩)])) w := by kernel_rfl
theorem asFits (w : World) : (ReflectliteType.relation "AssignableTo" ReflectliteType.assignableTo #[.agg #[.pointer (some ⟨9, 92, none⟩)], .iface 151 (.agg #[.pointer (some ⟨9, 92, none⟩)])]).run Tryd.prog w = .ok (.bool true) w := by kernel_rfl
theorem asValue (k : Int) (e : Addr) (w : World) : (ReflectliteValue.unpack (.iface 92 (.agg #[.int .i64 k, .iface 169 (.pointer (some e))]))).run Tryd.prog w = .ok (.agg #[.pointer (some ⟨9, 92, none⟩), .pointer (some ⟨w.heap.size, 0, none⟩), .int .u64 153]) (w.alloc (.cells #[.int .i64 k, .iface 169 (.pointer (some e))] 92)) := by kernel_rfl
theorem asPartsP (a : Addr) (w : World) : (ReflectliteValue.parts (.agg #[.pointer (some ⟨9, 94, none⟩), .pointer (some a), .int .u64 150])).run Tryd.prog w = .ok (some (94, a, 150)) w := by kernel_rfl
theorem asPartsA (a : Addr) (w : World) : (ReflectliteValue.parts (.agg #[.pointer (some ⟨9, 92, none⟩), .pointer (some a), .int .u64 409])).run Tryd.prog w = .ok (some (92, a, 409)) w := by kernel_rfl
theorem asPartsE (a : Addr) (w : World) : (ReflectliteValue.parts (.agg #[.pointer (some ⟨9, 92, none⟩), .pointer (some a), .int .u64 153])).run Tryd.prog w = .ok (some (92, a, 153)) w := by kernel_rfl
theorem asElemOf (w : World) : (Rtype.elem? 94).run Tryd.prog w = .ok (some 92) w := by kernel_rfl
theorem asMade (p : Addr) (w : World) : (ReflectliteValue.mk 92 p ReflectliteValue.flagAddr).run Tryd.prog w = .ok (.agg #[.pointer (some ⟨9, 92, none⟩), .pointer (some p), .int .u64 409]) w := by kernel_rfl
theorem asSame (w : World) : (Rtype.directlyAssignable 92 92).run Tryd.prog w = .ok true w := by kernel_rfl
theorem asNotNil (a p : Addr) (W : World) (ha : W.cell? a = some (.pointer (some p))) :
    (ReflectliteValue.method (ReflectliteValue.valueError "reflectlite.Value.IsNil" 0) ReflectliteValue.isNil #[.agg #[.pointer (some ⟨9, 94, none⟩), .pointer (some a), .int .u64 150]]).run Tryd.prog W = .ok (.bool false) W := by
  change Sem.run Tryd.prog (ReflectliteValue.parts (.agg #[.pointer (some ⟨9, 94, none⟩), .pointer (some a), .int .u64 150]) >>= _) W = _
  simp only [Sem.run_bind, asPartsP, Result.andThen]
  simp [ReflectliteValue.isNil, loadVar, isAgg, underlying, Tryd.underlying94, ha, Result.andThen]
theorem asInto (a p : Addr) (W : World) (ha : W.cell? a = some (.pointer (some p))) :
    (ReflectliteValue.method (ReflectliteValue.valueError "reflectlite.Value.Elem" 0) ReflectliteValue.elem #[.agg #[.pointer (some ⟨9, 94, none⟩), .pointer (some a), .int .u64 150]]).run Tryd.prog W = .ok (.agg #[.pointer (some ⟨9, 92, none⟩), .pointer (some p), .int .u64 409]) W := by
  change Sem.run Tryd.prog (ReflectliteValue.parts (.agg #[.pointer (some ⟨9, 94, none⟩), .pointer (some a), .int .u64 150]) >>= _) W = _
  simp only [Sem.run_bind, asPartsP, Result.andThen]
  simp [ReflectliteValue.elem, loadVar, isAgg, underlying, Tryd.underlying94, ha, Result.andThen, asElemOf, asMade]
theorem asPut (j jb : Nat) (k : Int) (e : Addr) (o0 o1 : Value) (W : World) (hb0 : W.cell? ⟨jb, 0, none⟩ = some (.int .i64 k)) (hb1 : W.cell? ⟨jb, 1, none⟩ = some (.iface 169 (.pointer (some e)))) (ht0 : W.cell? ⟨j, 0, none⟩ = some o0) (ht1 : W.cell? ⟨j, 1, none⟩ = some o1) (hf0 : W.frozen? ⟨j, 0, none⟩ = false) (hf1 : W.frozen? ⟨j, 1, none⟩ = false) :
    (ReflectliteValue.set #[.agg #[.pointer (some ⟨9, 92, none⟩), .pointer (some ⟨j, 0, none⟩), .int .u64 409], .agg #[.pointer (some ⟨9, 92, none⟩), .pointer (some ⟨jb, 0, none⟩), .int .u64 153]]).run Tryd.prog W = .ok (.tuple #[]) ((W.setCell ⟨j, 0, none⟩ (.int .i64 k)).setCell ⟨j, 1, none⟩ (.iface 169 (.pointer (some e)))) := by
  change Sem.run Tryd.prog (ReflectliteValue.parts (.agg #[.pointer (some ⟨9, 92, none⟩), .pointer (some ⟨j, 0, none⟩), .int .u64 409]) >>= fun x => ReflectliteValue.parts (.agg #[.pointer (some ⟨9, 92, none⟩), .pointer (some ⟨jb, 0, none⟩), .int .u64 153]) >>= _) W = _
  have hz : (sizeOf 92).run Tryd.prog W = .ok 2 W := by kernel_rfl
  have hz' : ∀ W' : World, (sizeOf 92).run Tryd.prog W' = .ok 2 W' := fun W' => by kernel_rfl
  have hl0 : (load ⟨jb, 0, none⟩).run Tryd.prog W = .ok (.int .i64 k) W := by simp [hb0]
  have hl1 : (load ⟨jb, 1, none⟩).run Tryd.prog W = .ok (.iface 169 (.pointer (some e))) W := by simp [hb1]
  simp only [Sem.run_bind, asPartsA, asPartsE, Result.andThen]
  simp [ReflectliteValue.flagAddr, loadVar, isAgg, underlying, Tryd.underlying92, hz', loadCells, loadCellsFrom, hl0, hl1, Result.andThen, asSame, storeVar, Value.cells, storeCells, Addr.add]
  have s0 : (store ⟨j, 0, none⟩ (.int .i64 k)).run Tryd.prog W = .ok () (W.setCell ⟨j, 0, none⟩ (.int .i64 k)) := by
    rw [run_store Tryd.prog W _ _ _ (by rfl)]
    simp [ht0, hf0]
  have g1 : (W.setCell ⟨j, 0, none⟩ (.int .i64 k)).cell? ⟨j, 1, none⟩ = some o1 := (World.cell?_setCell_other _ _ _ _ (by simp)).trans ht1
  have g2 : (W.setCell ⟨j, 0, none⟩ (.int .i64 k)).frozen? ⟨j, 1, none⟩ = false := by simpa using hf1
  have s1 : (store ⟨j, 1, none⟩ (.iface 169 (.pointer (some e)))).run Tryd.prog (W.setCell ⟨j, 0, none⟩ (.int .i64 k)) = .ok () ((W.setCell ⟨j, 0, none⟩ (.int .i64 k)).setCell ⟨j, 1, none⟩ (.iface 169 (.pointer (some e)))) := by
    rw [run_store Tryd.prog _ _ _ _ (by rfl)]
    simp [g1, g2]
  rw [s0]
  dsimp only
  rw [s1]
set_option maxHeartbeats 4000000 in
theorem as_hit (k : Int) (e : Addr) (j : Nat) (o0 o1 : Value) (w : World) (hE : EtH w) (ht0 : w.cell? ⟨j, 0, none⟩ = some o0) (ht1 : w.cell? ⟨j, 1, none⟩ = some o1) (hf0 : w.frozen? ⟨j, 0, none⟩ = false) (hf1 : w.frozen? ⟨j, 1, none⟩ = false) :
    Calls Tryd.prog 48 #[.iface 92 (.agg #[.int .i64 k, .iface 169 (.pointer (some e))]), .iface 94 (.pointer (some ⟨j, 0, none⟩))] w fun ev w' => ev = .returned (.bool true) ∧ w' = (((((w.alloc (.cells #[.pointer (some ⟨j, 0, none⟩)] 94)).alloc (.cells #[.pointer (some ⟨9, 94, none⟩), .pointer (some ⟨w.heap.size, 0, none⟩), .int .u64 150] 127)).alloc (.cells #[.pointer (some ⟨9, 94, none⟩), .pointer (some ⟨w.heap.size, 0, none⟩), .int .u64 150] 127)).alloc (.cells #[.int .i64 k, .iface 169 (.pointer (some e))] 92)).setCell ⟨j, 0, none⟩ (.int .i64 k)).setCell ⟨j, 1, none⟩ (.iface 169 (.pointer (some e))) := by
  have x1 := @run_callFunc_extern Tryd.prog 84 _ (fun args => ReflectliteValue.unpack (args.getD 0 (.tuple #[]))) Tryd.func84 (by kernel_rfl) (by kernel_rfl) (by kernel_rfl) (by kernel_rfl)
  have x2 := @run_callFunc_extern Tryd.prog 85 _ (ReflectliteValue.methodAny (ReflectliteValue.valueError "reflectlite.Value.Type" 0) (fun t _ _ _ => ReflectliteType.toType t)) Tryd.func85 (by kernel_rfl) (by kernel_rfl) (by kernel_rfl) (by kernel_rfl)
  have x3 := @run_callFunc_extern Tryd.prog 86 _ (ReflectliteValue.method (ReflectliteValue.valueError "reflectlite.Value.IsNil" 0) ReflectliteValue.isNil) Tryd.func86 (by kernel_rfl) (by kernel_rfl) (by kernel_rfl) (by kernel_rfl)
  have x4 := @run_callFunc_extern Tryd.prog 135 _ (ReflectliteType.abiMethod fun t => do pure (.int .u8 (← Rtype.kind t))) Tryd.func135 (by kernel_rfl) (by kernel_rfl) (by kernel_rfl) (by kernel_rfl)
  have x5 := @run_callFunc_extern Tryd.prog 146 _ (ReflectliteType.method ReflectliteType.elem) Tryd.func146 (by kernel_rfl) (by kernel_rfl) (by kernel_rfl) (by kernel_rfl)
  have x6 := @run_callFunc_extern Tryd.prog 147 _ (ReflectliteType.relation "Implements" ReflectliteType.implements_) Tryd.func147 (by kernel_rfl) (by kernel_rfl) (by kernel_rfl) (by kernel_rfl)
  have x7 := @run_callFunc_extern Tryd.prog 106 _ (ReflectliteType.typeOf) Tryd.func106 (by kernel_rfl) (by kernel_rfl) (by kernel_rfl) (by kernel_rfl)
  have x8 := @run_callFunc_extern Tryd.prog 144 _ (ReflectliteType.relation "AssignableTo" ReflectliteType.assignableTo) Tryd.func144 (by kernel_rfl) (by kernel_rfl) (by kernel_rfl) (by kernel_rfl)
  have x9 := @run_callFunc_extern Tryd.prog 107 _ (ReflectliteValue.method (ReflectliteValue.valueError "reflectlite.Value.Elem" 0) ReflectliteValue.elem) Tryd.func107 (by kernel_rfl) (by kernel_rfl) (by kernel_rfl) (by kernel_rfl)
  have x10 := @run_callFunc_extern Tryd.prog 108 _ (ReflectliteValue.set) Tryd.func108 (by kernel_rfl) (by kernel_rfl) (by kernel_rfl) (by kernel_rfl)
  have y1 := asType
  have y2 := asMeth4
  have y3 := asFits
  have y4 := asValue
  have y5 := asTarget
  have y6 := asTargetType
  have y7 := asMeth1
  have y8 := asMeth2
  have y9 := asMeth3
  have y10 := asKindP
  have y11 := asKindE
  have y12 := asElemP
  have y13 := asIsError
  have y14 := asNotNil ⟨w.heap.size, 0, none⟩ ⟨j, 0, none⟩ ((w.alloc (.cells #[.pointer (some ⟨j, 0, none⟩)] 94)).alloc (.cells #[.pointer (some ⟨9, 94, none⟩), .pointer (some ⟨w.heap.size, 0, none⟩), .int .u64 150] 127)) (by simp)
  have hlt := hE.2
  have hg2 : ((w.alloc (.cells #[.pointer (some ⟨j, 0, none⟩)] 94)).alloc (.cells #[.pointer (some ⟨9, 94, none⟩), .pointer (some ⟨w.heap.size, 0, none⟩), .int .u64 150] 127)).cell? ⟨0, 0, none⟩ = some (.iface 151 (.agg #[.pointer (some ⟨9, 83, none⟩)])) := by
    rw [World.cell?_alloc_lt _ _ ⟨0, 0, none⟩ (by first | (simp; done) | (simp; omega) | omega), World.cell?_alloc_lt _ _ ⟨0, 0, none⟩ hlt]; exact hE.1
  have htl : j < w.heap.size := World.block_lt_of_cell? w _ ht0
  have y15 := asInto ⟨w.heap.size, 0, none⟩ ⟨j, 0, none⟩ (((w.alloc (.cells #[.pointer (some ⟨j, 0, none⟩)] 94)).alloc (.cells #[.pointer (some ⟨9, 94, none⟩), .pointer (some ⟨w.heap.size, 0, none⟩), .int .u64 150] 127)).alloc (.cells #[.pointer (some ⟨9, 94, none⟩), .pointer (some ⟨w.heap.size, 0, none⟩), .int .u64 150] 127)) (by rw [World.cell?_alloc_lt _ _ ⟨w.heap.size, 0, none⟩ (by simp; omega)]; simp)
  have hB := ((((Below.nw w (.cells #[.pointer (some ⟨j, 0, none⟩)] 94)).alloc (by simp) (.cells #[.pointer (some ⟨9, 94, none⟩), .pointer (some ⟨w.heap.size, 0, none⟩), .int .u64 150] 127)).alloc (by simp; omega) (.cells #[.pointer (some ⟨9, 94, none⟩), .pointer (some ⟨w.heap.size, 0, none⟩), .int .u64 150] 127)).alloc (by simp; omega) (.cells #[.int .i64 k, .iface 169 (.pointer (some e))] 92))
  have y16 := asPut j (w.heap.size + 1 + 1 + 1) k e o0 o1 ((((w.alloc (.cells #[.pointer (some ⟨j, 0, none⟩)] 94)).alloc (.cells #[.pointer (some ⟨9, 94, none⟩), .pointer (some ⟨w.heap.size, 0, none⟩), .int .u64 150] 127)).alloc (.cells #[.pointer (some ⟨9, 94, none⟩), .pointer (some ⟨w.heap.size, 0, none⟩), .int .u64 150] 127)).alloc (.cells #[.int .i64 k, .iface 169 (.pointer (some e))] 92))
    (by rw [World.cell?_alloc_at _ _ _ _ (by simp)]; rfl)
    (by rw [World.cell?_alloc_at _ _ _ _ (by simp)]; rfl)
    ((hB.cell (p := ⟨j, 0, none⟩) htl).trans ht0) ((hB.cell (p := ⟨j, 1, none⟩) htl).trans ht1)
    ((hB.frozen (p := ⟨j, 0, none⟩) htl).trans hf0) ((hB.frozen (p := ⟨j, 1, none⟩) htl).trans hf1)
  clear hB
  go_enter Tryd.func48, Tryd.ntmps48
  go_wp2
  refine wp_loop_rounds 1 ?_
  rw [rounds_succ]
  go_wp2
  go_ret
  exact ⟨rfl, rfl⟩
theorem as_at (k : Int) (e : Addr) (j : Nat) (o0 o1 : Value) (w : World) (hE : EtH w) (ht0 : w.cell? ⟨j, 0, none⟩ = some o0) (ht1 : w.cell? ⟨j, 1, none⟩ = some o1) (hf0 : w.frozen? ⟨j, 0, none⟩ = false) (hf1 : w.frozen? ⟨j, 1, none⟩ = false) :
    Calls Tryd.prog 48 #[.iface 92 (.agg #[.int .i64 k, .iface 169 (.pointer (some e))]), .iface 94 (.pointer (some ⟨j, 0, none⟩))] w fun ev w' => ev = .returned (.bool true) ∧ w'.cell? ⟨j, 0, none⟩ = some (.int .i64 k) ∧ But j w w' := by
  have htl : j < w.heap.size := World.block_lt_of_cell? w _ ht0
  refine (as_hit k e j o0 o1 w hE ht0 ht1 hf0 hf1).mono ?_
  rintro ev w' ⟨rfl, rfl⟩
  have hB := ((((Below.nw w (.cells #[.pointer (some ⟨j, 0, none⟩)] 94)).alloc (by simp) (.cells #[.pointer (some ⟨9, 94, none⟩), .pointer (some ⟨w.heap.size, 0, none⟩), .int .u64 150] 127)).alloc (by simp; omega) (.cells #[.pointer (some ⟨9, 94, none⟩), .pointer (some ⟨w.heap.size, 0, none⟩), .int .u64 150] 127)).alloc (by simp; omega) (.cells #[.int .i64 k, .iface 169 (.pointer (some e))] 92))
  refine ⟨rfl, ?_, ?_⟩
  · have h1 := World.cell?_setCell_same _ _ (.int .i64 k) ((hB.cell (p := ⟨j, 0, none⟩) htl).trans ht0)
    exact (World.cell?_setCell_other _ _ _ _ (by simp)).trans h1
  · exact But.setCell (But.setCell (But.of_below hB) 0 _) 1 _

end Go.Proofs.YtcakhfobkbgfoaaDoor
namespace Go.Proofs.YtcakhfobkbgfoaaDoor
open Go.RowKit
set_option linter.unusedVariables false
theorem bst_yes {M : Nat → SlT} {o : Int} {j : Nat} {x l : Int} (hM : M j = (x, l)) (h : (x == o) = true) : bst M o (j + 1) = imx (bst M o j) l := by rw [bst, hM]; show (match (x == o) with | true => _ | false => _) = _; rw [h]
theorem bst_no {M : Nat → SlT} {o : Int} {j : Nat} {x l : Int} (hM : M j = (x, l)) (h : (x == o) = false) : bst M o (j + 1) = bst M o j := by rw [bst, hM]; show (match (x == o) with | true => _ | false => _) = _; rw [h]
theorem bst_bd {M : Nat → SlT} {n : Nat} {o : Int} (hA : slA M n = true) : ∀ k, k ≤ n → 0 ≤ bst M o k ∧ bst M o k ≤ 1000000
  | 0, _ => by rw [bst]; decide
  | k + 1, hk => by
    have ih := bst_bd (o := o) hA k (by omega)
    have hl := (slB_t (slA_at hA (show k < n by omega))).2
    rw [bst]
    cases e : ((M k).1 == o)
    · exact ih
    · show 0 ≤ imx (bst M o k) (M k).2 ∧ imx (bst M o k) (M k).2 ≤ 1000000
      unfold imx
      split <;> omega
theorem gb_no {s g : Int} {M : Nat → SlT} {m : Nat} {o n d x : Int} (h : gbB s g M m o n d x = false) : gbI s g M m o n d x = 0 := sel_f h _
theorem gb_pl {s g : Int} {M : Nat → SlT} {m : Nat} {o n d x : Int} (h : plB s g M m = false) : gbB s g M m o n d x = false := by unfold gbB; rw [h]; rfl
theorem mo_bd {n d x : Int} (h : moB n d x = true) : 0 ≤ moT n d x ∧ moT n d x ≤ 1000000000000 := by
  unfold moT
  rw [sel_t h]
  unfold moB rB at h
  simp only [Bool.and_eq_true] at h
  exact okT_t h.2
set_option maxRecDepth 100000 in
set_option maxHeartbeats 8000000 in
theorem specGateBudget_any (s g : Int) (a : Option Addr) (m c : Nat) (M : Nat → SlT) (o n d x : Int) (w : World) (hm : m ≤ maxLen) (hs : SrcC w a (m * 2) (MFSlot M)) :
    Calls Tryd.prog 34 #[.agg #[.int .i64 s, .int .i64 g, .slice a m c], .int .i64 o, .agg #[.int .i64 n, .int .i64 d], .int .i64 x] w fun e w' => e = .returned (.tuple #[.int .i64 (gbI s g M m o n d x), .bool (gbB s g M m o n d x)]) ∧ Below w.heap.size w w' := by
  have A0 := Below.nw w (.cells #[.int .i64 s, .int .i64 g, .slice a m c] 30)
  have A1 := Below.nw (w.alloc (.cells #[.int .i64 s, .int .i64 g, .slice a m c] 30)) (.cells #[.int .i64 n, .int .i64 d] 27)
  have N := (Tx3.new w (.int .i64 s) (.int .i64 g) (.slice a m c) 30).below A1
  have D := Bx2.new (w.alloc (.cells #[.int .i64 s, .int .i64 g, .slice a m c] 30)) (.int .i64 n) (.int .i64 d) 27
  have B := A0.trans (A1.mono A0.size)
  simp only [World.size_alloc] at D
  clear A0 A1
  have HS : Hid (SrcC w a (m * 2) (MFSlot M)) := hs
  clear hs
  have CP := fun w' h => specPlanOk_any s g a m c M w' hm h
  have CM := fun w' => mo_any n d x w'
  cases h1 : plB s g M m
  · have e1 := gb_pl (o := o) (n := n) (d := d) (x := x) h1
    rw [e1, gb_no e1]
    rw [h1] at CP
    clear e1 h1 CM
    go_enter Tryd.func34, Tryd.ntmps34
    go_upto_region 1 with fail
    generalize (w.alloc (.cells #[.int .i64 s, .int .i64 g, .slice a m c] 30)).alloc (.cells #[.int .i64 n, .int .i64 d] 27) = v at *
    obtain ⟨n0, n1, n2, n3, n4, n5, n6⟩ := id N
    go_wp2_with fail
    refine (CP _ (HS.out.below B)).mono ?_
    rintro e v1 ⟨rfl, hb⟩
    clear n0 n1 n2 n3 n4 n5 n6
    replace B := B.trans (hb.mono B.size)
    go_wp2_with fail
    go_ret2
    exact ⟨rfl, B⟩
  obtain ⟨p1, p2, p3, p4⟩ := plB_t h1
  obtain ⟨b, off, rfl, hf⟩ : ∃ b off, a = some ⟨b, off, none⟩ ∧ Cs w b off (m * 2) (MFSlot M) := by
    rcases HS.out with q | q
    · exact absurd q (by omega)
    · exact q
  have HF : Hid (Cs w b off (m * 2) (MFSlot M)) := hf
  have hbb := bst_bd (o := o) p4 m (Nat.le_refl _)
  have HG : Hid (gbB s g M m o n d x = (!(bst M o m == 0) && (!decide (x < 1) && (moB n d x && !decide (bst M o m < moT n d x))))) := by unfold Hid gbB; rw [h1]; rfl
  have HI : Hid (gbI s g M m o n d x = sel (gbB s g M m o n d x) (bst M o m - moT n d x)) := rfl
  have HM := mo_bd (n := n) (d := d) (x := x)
  rw [h1] at CP
  clear hf p1 p2 p4 h1
  generalize gbI s g M m o n d x = RI at *
  generalize gbB s g M m o n d x = RB at *
  generalize moT n d x = t at *
  generalize moB n d x = Q at *
  go_enter Tryd.func34, Tryd.ntmps34
  go_upto_region 1 with fail
  generalize (w.alloc (.cells #[.int .i64 s, .int .i64 g, .slice (some ⟨b, off, none⟩) m c] 30)).alloc (.cells #[.int .i64 n, .int .i64 d] 27) = v at *
  generalize w.heap.size + 1 = jd at *
  obtain ⟨n0, n1, n2, n3, n4, n5, n6⟩ := id N
  go_wp2_with fail
  refine (CP _ (HS.out.below B)).mono ?_
  rintro e v1 ⟨rfl, hb⟩
  clear n0 n1 n2 n3 n4 n5 n6
  replace B := B.trans (hb.mono B.size)
  replace N := N.below hb
  replace D := D.below hb
  clear hb CP
  go_wp2_with fail
  go_loopw [10, 11] (fun s10 i wr => ∃ (j : Nat), j ≤ m ∧ i = .int .i64 j ∧ s10 = .int .i64 (bst M o j) ∧ v1 = wr) (fun _ i _ => m - (intOf i).toNat)
  case atStart => exact ⟨0, Nat.zero_le _, rfl, rfl, by first | rfl | trivial⟩
  case round =>
    obtain ⟨j, hj2, rfl, rfl, rfl⟩ := hrel
    by_cases hlt : j < m
    · obtain ⟨y, l, hM⟩ := tupSlot M j
      obtain ⟨c1, c2⟩ := (HF.out.below B HF.out.1).elSlot hlt hM
      have HLT : Hid (j < m) := hlt
      have hli : (j : Int) < (m : Int) := by omega
      clear hlt hj2 HM hbb
      obtain ⟨n0, n1, n2, n3, n4, n5, n6⟩ := id N
      cases ho : (y == o)
      · have HE : Hid (bst M o (j + 1) = bst M o j) := bst_no hM ho
        clear hM HG HI
        generalize bst M o j = bj at *
        go_wp2_with fail
        go_roundw
        case rel => exact ⟨j + 1, HLT.out, by go_num, by rw [HE.out], by first | rfl | trivial⟩
        case measure => have hlt' := HLT.out; simp [intOf]; omega
      · have HE : Hid (bst M o (j + 1) = imx (bst M o j) l) := bst_yes hM ho
        clear hM HG HI
        generalize bst M o j = bj at *
        go_wp2_with fail
        refine (l1Max_any bj l _).mono ?_
        rintro e w' ⟨rfl, rfl⟩
        go_wp2_with fail
        go_roundw
        case rel => exact ⟨j + 1, HLT.out, by go_num, by rw [HE.out], by first | rfl | trivial⟩
        case measure => have hlt' := HLT.out; simp [intOf]; omega
    · have hkn : j = m := by omega
      subst hkn
      have hli : ¬ (j : Int) < (j : Int) := by omega
      generalize bst M o j = bj at *
      clear hlt hj2
      obtain ⟨n0, n1, n2, n3, n4, n5, n6⟩ := id N
      obtain ⟨d0, d1, d2, d3, d4⟩ := id D
      go_wp2_with fail
      refine (CM _).mono ?_
      rintro e v2 ⟨rfl, hb⟩
      clear n0 n1 n2 n3 n4 n5 n6
      clear d0 d1 d2 d3 d4
      replace B := B.trans (hb.mono B.size)
      clear hb N D CM
      cases q1 : (bj == 0)
      · by_cases q2 : x < 1
        · have hR : RB = false := by rw [HG.out, q1, decide_eq_true q2]; simp
          have hR2 : RI = 0 := by rw [HI.out, hR]; rfl
          subst hR hR2
          clear HG HI HM
          go_wp2_with fail
          go_ret2
          exact ⟨rfl, B⟩
        cases Q
        · have hR : RB = false := by rw [HG.out]; simp
          have hR2 : RI = 0 := by rw [HI.out, hR]; rfl
          subst hR hR2
          clear HG HI HM
          go_wp2_with fail
          go_ret2
          exact ⟨rfl, B⟩
        by_cases q3 : bj < t
        · have hR : RB = false := by rw [HG.out, decide_eq_true q3]; simp
          have hR2 : RI = 0 := by rw [HI.out, hR]; rfl
          subst hR hR2
          clear HG HI HM
          go_wp2_with fail
          go_ret2
          exact ⟨rfl, B⟩
        have hR : RB = true := by rw [HG.out, q1, decide_eq_false q2, decide_eq_false q3]; rfl
        have hR2 : RI = bj - t := by rw [HI.out, hR]; rfl
        have hw : IntKind.i64.wrap (bj - t) = bj - t := by
          have := HM rfl
          exact Go.IntWalk.i64_in _ ⟨by omega, by omega⟩
        subst hR hR2
        clear HG HI HM
        go_wp2_with fail
        go_ret2
        exact ⟨rfl, B⟩
      · have hR : RB = false := by rw [HG.out, q1]; rfl
        have hR2 : RI = 0 := by rw [HI.out, hR]; rfl
        subst hR hR2
        clear HG HI HM
        go_wp2_with fail
        go_ret2
        exact ⟨rfl, B⟩
end Go.Proofs.YtcakhfobkbgfoaaDoor
namespace Go.Proofs.YtcakhfobkbgfoaaDoor
open Go.RowKit
set_option linter.unusedVariables false
set_option maxRecDepth 100000 in
set_option maxHeartbeats 8000000 in
theorem longest_any (s g : Int) (a : Option Addr) (m c : Nat) (M : Nat → SlT) (o : Int) (w : World) (hm : m ≤ maxLen) (hs : SrcC w a (m * 2) (MFSlot M)) :
    Calls Tryd.prog 77 #[.agg #[.int .i64 s, .int .i64 g, .slice a m c], .int .i64 o] w fun e w' => e = .returned (.int .i64 (loI s g M m o)) ∧ Below w.heap.size w w' := by
  have B := Below.nw w (.cells #[.int .i64 s, .int .i64 g, .slice a m c] 30)
  have N := Tx3.new w (.int .i64 s) (.int .i64 g) (.slice a m c) 30
  have HS : Hid (SrcC w a (m * 2) (MFSlot M)) := hs
  clear hs
  have CP := fun w' h => planOk_any s g a m c M w' hm h
  cases h1 : plB s g M m
  · have e1 : loI s g M m o = 0 := sel_f h1 _
    rw [e1]
    rw [h1] at CP
    clear e1 h1
    go_enter Tryd.func77, Tryd.ntmps77
    go_upto_region 1 with fail
    generalize w.alloc (.cells #[.int .i64 s, .int .i64 g, .slice a m c] 30) = v at *
    obtain ⟨n0, n1, n2, n3, n4, n5, n6⟩ := id N
    go_wp2_with fail
    refine (CP _ (HS.out.below B)).mono ?_
    rintro e v1 ⟨rfl, hb⟩
    clear n0 n1 n2 n3 n4 n5 n6
    replace B := B.trans (hb.mono B.size)
    go_wp2_with fail
    go_ret
    exact ⟨rfl, B⟩
  have e1 : loI s g M m o = bst M o m := sel_t h1 _
  rw [e1]
  obtain ⟨p1, p2, p3, p4⟩ := plB_t h1
  obtain ⟨b, off, rfl, hf⟩ : ∃ b off, a = some ⟨b, off, none⟩ ∧ Cs w b off (m * 2) (MFSlot M) := by
    rcases HS.out with q | q
    · exact absurd q (by omega)
    · exact q
  have HF : Hid (Cs w b off (m * 2) (MFSlot M)) := hf
  rw [h1] at CP
  clear hf p1 p2 p4 h1 e1
  go_enter Tryd.func77, Tryd.ntmps77
  go_upto_region 1 with fail
  generalize w.alloc (.cells #[.int .i64 s, .int .i64 g, .slice (some ⟨b, off, none⟩) m c] 30) = v at *
  obtain ⟨n0, n1, n2, n3, n4, n5, n6⟩ := id N
  go_wp2_with fail
  refine (CP _ (HS.out.below B)).mono ?_
  rintro e v1 ⟨rfl, hb⟩
  clear n0 n1 n2 n3 n4 n5 n6
  replace B := B.trans (hb.mono B.size)
  replace N := N.below hb
  clear hb CP
  obtain ⟨n0, n1, n2, n3, n4, n5, n6⟩ := id N
  go_wp2_with fail
  clear n0 n1 n2 n3 n4 n5 n6
  clear N
  go_loopw [5, 15] (fun s5 i wr => ∃ (j : Nat), j ≤ m ∧ i = .int .i64 j ∧ s5 = .int .i64 (bst M o j) ∧ Below w.heap.size w wr) (fun _ i _ => m - (intOf i).toNat)
  case atStart => exact ⟨0, Nat.zero_le _, rfl, rfl, B⟩
  case round =>
    clear B
    obtain ⟨j, hj2, rfl, rfl, B⟩ := hrel
    by_cases hlt : j < m
    · obtain ⟨y, l, hM⟩ := tupSlot M j
      obtain ⟨c1, c2⟩ := (HF.out.below B HF.out.1).elSlot hlt hM
      have HLT : Hid (j < m) := hlt
      have hli : (j : Int) < (m : Int) := by omega
      clear hlt hj2
      have A1 := Below.nw wr (.cells #[.int .i64 y, .int .i64 l] 42)
      have D := Bx2.new wr (.int .i64 y) (.int .i64 l) 42
      replace B := B.trans (A1.mono B.size)
      clear A1
      obtain ⟨d0, d1, d2, d3, d4⟩ := id D
      cases ho : (y == o)
      · have HE : Hid (bst M o (j + 1) = bst M o j) := bst_no hM ho
        clear hM
        generalize bst M o j = bj at *
        go_wp2_with fail
        go_roundw
        case rel => exact ⟨j + 1, HLT.out, by go_num, by rw [HE.out], B⟩
        case measure => have hlt' := HLT.out; simp [intOf]; omega
      · have HE : Hid (bst M o (j + 1) = imx (bst M o j) l) := bst_yes hM ho
        clear hM
        generalize bst M o j = bj at *
        go_wp2_with fail
        refine (ranked_any bj l _).mono ?_
        rintro e w' ⟨rfl, rfl⟩
        go_wp2_with fail
        go_roundw
        case rel => exact ⟨j + 1, HLT.out, by go_num, by rw [HE.out], B⟩
        case measure => have hlt' := HLT.out; simp [intOf]; omega
    · have hkn : j = m := by omega
      subst hkn
      have hli : ¬ (j : Int) < (j : Int) := by omega
      clear hlt hj2
      go_wp2_with fail
      go_ret
      exact ⟨rfl, B⟩
theorem lo_bd (s g : Int) (M : Nat → SlT) (m : Nat) (o : Int) : 0 ≤ loI s g M m o ∧ loI s g M m o ≤ 1000000 := by
  unfold loI
  cases h : plB s g M m
  · rw [sel_f rfl]; exact ⟨by decide, by decide⟩
  · rw [sel_t rfl]; exact bst_bd (plB_t h).2.2.2 m (Nat.le_refl _)
set_option maxRecDepth 100000 in
set_option maxHeartbeats 8000000 in
theorem implGateBudget_any (s g : Int) (a : Option Addr) (m c : Nat) (M : Nat → SlT) (o n d x : Int) (w : World) (E : EM w) (hm : m ≤ maxLen) (hs : SrcC w a (m * 2) (MFSlot M)) :
    Calls Tryd.prog 35 #[.agg #[.int .i64 s, .int .i64 g, .slice a m c], .int .i64 o, .agg #[.int .i64 n, .int .i64 d], .int .i64 x] w fun e w' => e = .returned (.tuple #[.int .i64 (gbI s g M m o n d x), .bool (gbB s g M m o n d x)]) ∧ Below w.heap.size w w' := by
  have A0 := Below.nw w (.cells #[.int .i64 s, .int .i64 g, .slice a m c] 30)
  have A1 := Below.nw (w.alloc (.cells #[.int .i64 s, .int .i64 g, .slice a m c] 30)) (.cells #[.int .i64 n, .int .i64 d] 27)
  have N := (Tx3.new w (.int .i64 s) (.int .i64 g) (.slice a m c) 30).below A1
  have D := Bx2.new (w.alloc (.cells #[.int .i64 s, .int .i64 g, .slice a m c] 30)) (.int .i64 n) (.int .i64 d) 27
  have B := A0.trans (A1.mono A0.size)
  simp only [World.size_alloc] at D
  clear A0 A1
  have HS : Hid (SrcC w a (m * 2) (MFSlot M)) := hs
  clear hs
  have CG := fun w' h => longest_any s g a m c M o w' hm h
  have CM := fun w' E => outMost_any n d x w' E
  have hb1 := lo_bd s g M m o
  have nN := neNo
  have nY := neYes
  go_enter Tryd.func35, Tryd.ntmps35
  go_upto_region 1 with fail
  generalize (w.alloc (.cells #[.int .i64 s, .int .i64 g, .slice a m c] 30)).alloc (.cells #[.int .i64 n, .int .i64 d] 27) = v at *
  generalize w.heap.size + 1 = jd at *
  obtain ⟨n0, n1, n2, n3, n4, n5, n6⟩ := id N
  go_wp2_with fail
  refine (CG _ (HS.out.below B)).mono ?_
  rintro e v1 ⟨rfl, hb⟩
  clear n0 n1 n2 n3 n4 n5 n6
  replace B := B.trans (hb.mono B.size)
  replace D := D.below hb
  clear hb CG N HS
  obtain ⟨d0, d1, d2, d3, d4⟩ := id D
  go_wp2_with fail
  refine (CM _ (E.below B)).mono ?_
  rintro e v2 ⟨⟨u, rfl, hv⟩, hb⟩
  clear d0 d1 d2 d3 d4
  replace B := B.trans (hb.mono B.size)
  clear hb CM D
  cases h1 : mzB n d x
  · obtain ⟨k, rfl⟩ := hv.no h1
    have HR : Hid (gbB s g M m o n d x = false ∧ gbI s g M m o n d x = 0) := gb_mz h1
    clear hv h1
    generalize mzT n d x = T at *
    generalize loI s g M m o = L at *
    go_wp2_with fail
    go_ret2
    exact ⟨by rw [HR.out.1, HR.out.2]; rfl, B⟩
  obtain rfl := hv.yes h1
  by_cases h2 : loI s g M m o < mzT n d x
  · have HR : Hid (gbB s g M m o n d x = false ∧ gbI s g M m o n d x = 0) := gb_lt h1 h2
    clear hv h1
    generalize mzT n d x = T at *
    generalize loI s g M m o = L at *
    go_wp2_with fail
    go_ret2
    exact ⟨by rw [HR.out.1, HR.out.2]; rfl, B⟩
  have HR : Hid (gbB s g M m o n d x = true ∧ gbI s g M m o n d x = loI s g M m o - mzT n d x) := gb_in h1 h2
  have hp := mz_pos h1
  clear hv h1
  generalize mzT n d x = T at *
  generalize loI s g M m o = L at *
  have hw : IntKind.i64.wrap (L - T) = L - T := Go.IntWalk.i64_in _ ⟨by omega, by omega⟩
  go_wp2_with fail
  go_ret2
  exact ⟨by rw [HR.out.1, HR.out.2]; rfl, B⟩
end Go.Proofs.YtcakhfobkbgfoaaDoor
namespace Go.Proofs.YtcakhfobkbgfoaaDoor
open Go.RowKit
set_option linter.unusedVariables false
def EA (w : World) : Prop := EtH w ∧ EW w
theorem EA.below {w w' : World} (h : EA w) (hb : Below w.heap.size w w') : EA w' := ⟨h.1.below hb, h.2.below hb⟩
theorem EA.ew {w : World} (h : EA w) : EW w := h.2
theorem EA.em {w : World} (h : EA w) : EM w := h.2.em
theorem ga_zero {kn : Bool} {lo hi n d x s g : Int} {M : Nat → SlT} {m : Nat} {o : Int} (h : ¬ gaC kn lo hi n d x s g M m o = 0) : gaI kn lo hi n d x s g M m o = 0 ∧ gaK kn lo hi n d x s g M m o = 0 := by
  cases h1 : gaP kn lo hi n d x (plB s g M m) o
  · exact (ga_bad h1).2
  cases h2 : gaG kn lo hi n d x s g M m o
  · exact (ga_un h1 h2).2
  · exact absurd (ga_go h2).1 h
set_option maxRecDepth 100000 in
set_option maxHeartbeats 16000000 in
theorem implGateAsk_any (kn : Bool) (lo hi n d x s g : Int) (a : Option Addr) (m c : Nat) (M : Nat → SlT) (o : Int) (w : World) (E : EA w) (hm : m ≤ maxLen) (hs : SrcC w a (m * 2) (MFSlot M)) :
    Calls Tryd.prog 12 #[.agg #[.int .i64 lo, .int .i64 hi], .bool kn, .agg #[.int .i64 n, .int .i64 d], .int .i64 x, .agg #[.int .i64 s, .int .i64 g, .slice a m c], .int .i64 o] w fun e w' => e = .returned (.tuple #[.int .i64 (gaI kn lo hi n d x s g M m o), .int .i64 (gaK kn lo hi n d x s g M m o), .int .i64 (gaC kn lo hi n d x s g M m o)]) ∧ Below w.heap.size w w' := by
  have A0 := Below.nw w (.cells #[.int .i64 lo, .int .i64 hi] 25)
  have A1 := Below.nw (w.alloc (.cells #[.int .i64 lo, .int .i64 hi] 25)) (.cells #[.int .i64 n, .int .i64 d] 27)
  have A2 := Below.nw ((w.alloc (.cells #[.int .i64 lo, .int .i64 hi] 25)).alloc (.cells #[.int .i64 n, .int .i64 d] 27)) (.cells #[.int .i64 s, .int .i64 g, .slice a m c] 30)
  have P := ((Bx2.new w (.int .i64 lo) (.int .i64 hi) 25).below A1).below A2
  have D := (Bx2.new (w.alloc (.cells #[.int .i64 lo, .int .i64 hi] 25)) (.int .i64 n) (.int .i64 d) 27).below A2
  have N := Tx3.new ((w.alloc (.cells #[.int .i64 lo, .int .i64 hi] 25)).alloc (.cells #[.int .i64 n, .int .i64 d] 27)) (.int .i64 s) (.int .i64 g) (.slice a m c) 30
  have B := (A0.trans (A1.mono A0.size)).trans (A2.mono (A0.trans (A1.mono A0.size)).size)
  simp only [World.size_alloc] at D N
  clear A0 A1 A2
  have HS : Hid (SrcC w a (m * 2) (MFSlot M)) := hs
  clear hs
  have CF := fun w' => gateFor_any n d x s g a m c o w'
  have CK := fun w' E hh => gateAsk_any kn lo hi n d x s g a m c M o w' E hm hh
  have HZ : Hid (¬ gaC kn lo hi n d x s g M m o = 0 → gaI kn lo hi n d x s g M m o = 0 ∧ gaK kn lo hi n d x s g M m o = 0) := ga_zero
  generalize gaI kn lo hi n d x s g M m o = GI at *
  generalize gaK kn lo hi n d x s g M m o = GK at *
  generalize gaC kn lo hi n d x s g M m o = GC at *
  go_enter Tryd.func12, Tryd.ntmps12
  go_upto_region 1 with fail
  generalize ((w.alloc (.cells #[.int .i64 lo, .int .i64 hi] 25)).alloc (.cells #[.int .i64 n, .int .i64 d] 27)).alloc (.cells #[.int .i64 s, .int .i64 g, .slice a m c] 30) = v at *
  generalize w.heap.size + 1 + 1 = jn at *
  generalize w.heap.size + 1 = jd at *
  have SK : Hid (∀ w', Below v.heap.size v w' → (fun w' => w'.cell? ⟨w.heap.size, 0, none⟩ = some (.int .i64 lo) ∧ w'.cell? ⟨w.heap.size, 1, none⟩ = some (.int .i64 hi) ∧ w'.cell? ⟨jd, 0, none⟩ = some (.int .i64 n) ∧ w'.cell? ⟨jd, 1, none⟩ = some (.int .i64 d) ∧ w'.cell? ⟨jn, 0, none⟩ = some (.int .i64 s) ∧ w'.cell? ⟨jn, 1, none⟩ = some (.int .i64 g) ∧ w'.cell? ⟨jn, 2, none⟩ = some (.slice a m c)) w') := fun w' hw => ⟨(P.below hw).2.1, (P.below hw).2.2.1, (D.below hw).2.1, (D.below hw).2.2.1, (N.below hw).2.1, (N.below hw).2.2.1, (N.below hw).2.2.2.1⟩
  go_cut [15, 16, 17] (fun s15 s16 s17 wx => ∃ u : Value, s15 = .int .i64 GI ∧ s16 = .int .i64 GK ∧ s17 = u ∧ Av GC u ∧ Below v.heap.size v wx)
  case first => as_aux_lemma =>
    have XB : Below v.heap.size v v.drew := Below.drew (Below.refl _ _)
    obtain ⟨p0, p1, p2, p3, p4⟩ := id P
    obtain ⟨d0, d1, d2, d3, d4⟩ := id D
    obtain ⟨n0, n1, n2, n3, n4, n5, n6⟩ := id N
    generalize hvd : v.drew = vx at *
    refine wp_region_held_drew (S := (fun w' => w'.cell? ⟨w.heap.size, 0, none⟩ = some (.int .i64 lo) ∧ w'.cell? ⟨w.heap.size, 1, none⟩ = some (.int .i64 hi) ∧ w'.cell? ⟨jd, 0, none⟩ = some (.int .i64 n) ∧ w'.cell? ⟨jd, 1, none⟩ = some (.int .i64 d) ∧ w'.cell? ⟨jn, 0, none⟩ = some (.int .i64 s) ∧ w'.cell? ⟨jn, 1, none⟩ = some (.int .i64 g) ∧ w'.cell? ⟨jn, 2, none⟩ = some (.slice a m c))) (by kernel_rfl) ?_ (fun hHeld => ?_)
    · first | exact SK.out _ XB | exact SK.out _ (Below.drew (Below.refl _ _))
    refine wpAnyH_take (i := 0) (v := ?_) (by rw [List.getElem?_toArray]; rfl) (by kernel_rfl) (by kernel_rfl) (by kernel_rfl) (by intro _ _ _ h; exact h) (Or.inl ⟨by rfl, ?_⟩) (by assumption) ?_
    rotate_left
    · (intro w hSw; (try dsimp only at hSw); go_simp; all_goals with_reducible rfl)
    (try simp only [Act.put, List.setIfInBounds_toArray, List.set_cons_zero, List.set_cons_succ])
    refine wpAnyH_take (i := 1) (v := ?_) (by rw [List.getElem?_toArray]; rfl) (by kernel_rfl) (by kernel_rfl) (by kernel_rfl) (by intro _ _ _ h; exact h) (Or.inl ⟨by rfl, ?_⟩) (by assumption) ?_
    rotate_left
    · (intro w hSw; (try dsimp only at hSw); go_simp; all_goals with_reducible rfl)
    (try simp only [Act.put, List.setIfInBounds_toArray, List.set_cons_zero, List.set_cons_succ])
    refine wpAnyH_take (i := 2) (v := ?_) (by rw [List.getElem?_toArray]; rfl) (by kernel_rfl) (by kernel_rfl) (by kernel_rfl) (by intro _ _ _ h; exact h) (Or.inl ⟨by rfl, ?_⟩) (by assumption) ?_
    rotate_left
    · (intro w hSw; (try dsimp only at hSw); go_simp; all_goals with_reducible rfl)
    (try simp only [Act.put, List.setIfInBounds_toArray, List.set_cons_zero, List.set_cons_succ])
    refine wpAnyH_take (i := 3) (v := ?_) (by rw [List.getElem?_toArray]; rfl) (by kernel_rfl) (by kernel_rfl) (by kernel_rfl) (by intro _ _ _ h; exact h) (Or.inl ⟨by rfl, ?_⟩) (by assumption) ?_
    rotate_left
    · (intro w hSw; (try dsimp only at hSw); go_simp; all_goals with_reducible rfl)
    (try simp only [Act.put, List.setIfInBounds_toArray, List.set_cons_zero, List.set_cons_succ])
    refine wpAnyH_take (i := 5) (v := ?_) (by rw [List.getElem?_toArray]; rfl) (by kernel_rfl) (by kernel_rfl) (by kernel_rfl) (by intro _ _ _ h; exact h) (Or.inl ⟨by rfl, ?_⟩) (by assumption) ?_
    rotate_left
    · (intro w hSw; (try dsimp only at hSw); go_simp; all_goals with_reducible rfl)
    (try simp only [Act.put, List.setIfInBounds_toArray, List.set_cons_zero, List.set_cons_succ])
    refine wpAnyH_take (i := 6) (v := ?_) (by rw [List.getElem?_toArray]; rfl) (by kernel_rfl) (by kernel_rfl) (by kernel_rfl) (by intro _ _ _ h; exact h) (Or.inl ⟨by rfl, ?_⟩) (by assumption) ?_
    rotate_left
    · (intro w hSw; (try dsimp only at hSw); go_simp; all_goals with_reducible rfl)
    (try simp only [Act.put, List.setIfInBounds_toArray, List.set_cons_zero, List.set_cons_succ])
    refine wpAnyH_ready (rs := [4]) (by kernel_rfl) (by simp) ?_
    refine AllReadyH.cons (by rw [List.getElem?_toArray]; rfl) (fun K hK => ?_) AllReadyH.nil
    go_simp
    refine (CF vx).mono ?_; rintro ee vx2 ⟨rfl, hbl⟩; (replace XB := XB.trans (hbl.mono XB.size)); (clear hbl); (generalize hvv : vx2 = vx at *); (clear hvv)
    (try go_wp2_with fail)
    refine hK.out _ _ ?_ (fun hHeld => ?_)
    · first | exact SK.out _ XB | exact SK.out _ (Below.drew (Below.refl _ _))
    clear hK K
    (try simp only [Act.put, List.setIfInBounds_toArray, List.set_cons_zero, List.set_cons_succ])
    refine wpAnyH_ready (rs := [7]) (by kernel_rfl) (by simp) ?_
    refine AllReadyH.cons (by rw [List.getElem?_toArray]; rfl) (fun K hK => ?_) AllReadyH.nil
    go_simp
    refine (CK vx (E.ew.below (B.trans (XB.mono B.size))) (HS.out.below (B.trans (XB.mono B.size)))).mono ?_; rintro ee vx3 ⟨⟨uu, rfl, hv⟩, hbl⟩; (replace XB := XB.trans (hbl.mono XB.size)); (clear hbl)
    (try go_wp2_with fail)
    refine hK.out _ _ ?_ (fun hHeld => ?_)
    · first | exact SK.out _ XB | exact SK.out _ (Below.drew (Below.refl _ _))
    clear hK K
    (try simp only [Act.put, List.setIfInBounds_toArray, List.set_cons_zero, List.set_cons_succ])
    refine wpAnyH_take (i := 8) (v := ?_) (by rw [List.getElem?_toArray]; rfl) (by kernel_rfl) (by kernel_rfl) (by kernel_rfl) (by intro _ _ _ h; exact h) (Or.inl ⟨by rfl, ?_⟩) (by assumption) ?_
    rotate_left
    · (intro w hSw; (try dsimp only at hSw); go_simp; all_goals with_reducible rfl)
    (try simp only [Act.put, List.setIfInBounds_toArray, List.set_cons_zero, List.set_cons_succ])
    refine wpAnyH_take (i := 9) (v := ?_) (by rw [List.getElem?_toArray]; rfl) (by kernel_rfl) (by kernel_rfl) (by kernel_rfl) (by intro _ _ _ h; exact h) (Or.inl ⟨by rfl, ?_⟩) (by assumption) ?_
    rotate_left
    · (intro w hSw; (try dsimp only at hSw); go_simp; all_goals with_reducible rfl)
    (try simp only [Act.put, List.setIfInBounds_toArray, List.set_cons_zero, List.set_cons_succ])
    refine wpAnyH_take (i := 10) (v := ?_) (by rw [List.getElem?_toArray]; rfl) (by kernel_rfl) (by kernel_rfl) (by kernel_rfl) (by intro _ _ _ h; exact h) (Or.inl ⟨by rfl, ?_⟩) (by assumption) ?_
    rotate_left
    · (intro w hSw; (try dsimp only at hSw); go_simp; all_goals with_reducible rfl)
    (try simp only [Act.put, List.setIfInBounds_toArray, List.set_cons_zero, List.set_cons_succ])
    refine wpAnyH_take (i := 11) (v := ?_) (by rw [List.getElem?_toArray]; rfl) (by kernel_rfl) (by kernel_rfl) (by kernel_rfl) (by intro _ _ _ h; exact h) (Or.inl ⟨by rfl, ?_⟩) (by assumption) ?_
    rotate_left
    · (intro w hSw; (try dsimp only at hSw); go_simp; all_goals with_reducible rfl)
    (try simp only [Act.put, List.setIfInBounds_toArray, List.set_cons_zero, List.set_cons_succ])
    refine wpAnyH_take (i := 12) (v := ?_) (by rw [List.getElem?_toArray]; rfl) (by kernel_rfl) (by kernel_rfl) (by kernel_rfl) (by intro _ _ _ h; exact h) (Or.inl ⟨by rfl, ?_⟩) (by assumption) ?_
    rotate_left
    · (intro w hSw; (try dsimp only at hSw); go_simp; all_goals with_reducible rfl)
    (try simp only [Act.put, List.setIfInBounds_toArray, List.set_cons_zero, List.set_cons_succ])
    refine wpAnyH_take (i := 13) (v := ?_) (by rw [List.getElem?_toArray]; rfl) (by kernel_rfl) (by kernel_rfl) (by kernel_rfl) (by intro _ _ _ h; exact h) (Or.inl ⟨by rfl, ?_⟩) (by assumption) ?_
    rotate_left
    · (intro w hSw; (try dsimp only at hSw); go_simp; all_goals with_reducible rfl)
    (try simp only [Act.put, List.setIfInBounds_toArray, List.set_cons_zero, List.set_cons_succ])
    refine wpAnyH_take (i := 14) (v := ?_) (by rw [List.getElem?_toArray]; rfl) (by kernel_rfl) (by kernel_rfl) (by kernel_rfl) (by intro _ _ _ h; exact h) (Or.inl ⟨by rfl, ?_⟩) (by assumption) ?_
    rotate_left
    · (intro w hSw; (try dsimp only at hSw); go_simp; all_goals with_reducible rfl)
    (try simp only [Act.put, List.setIfInBounds_toArray, List.set_cons_zero, List.set_cons_succ])
    refine wpAnyH_done (by kernel_rfl) ?_ _
    go_wp2_with fail
    go_meet
    case rel => exact ⟨uu, rfl, rfl, rfl, hv, XB⟩
  case rest =>
    obtain ⟨u, rfl, rfl, rfl, hv, XB⟩ := hcut
    replace B := B.trans (XB.mono B.size)
    clear SK XB CF CK P D N
    generalize wc = v1 at *
    have NL := Below.nw v1 (.cells #[.int .i64 0, .nilIface] 92)
    have R := Bx2.new v1 (.int .i64 0) .nilIface 92
    have HJ : w.heap.size ≤ v1.heap.size := B.size
    go_upto_region 3 with fail
    replace B := B.trans (NL.mono B.size)
    clear NL
    generalize v1.alloc (.cells #[.int .i64 0, .nilIface] 92) = v2 at *
    generalize v1.heap.size = jr at *
    rcases hv with ⟨rfl, rfl⟩ | ⟨q2, a1, rfl⟩
    · go_wp2_with fail
      refine (as_nil _ _).mono ?_
      rintro e w' ⟨rfl, rfl⟩
      go_wp2_with fail
      exact bodyPost_ret (v := (.tuple #[.int .i64 GI, .int .i64 GK, .int .i64 0])) (by simp (maxDischargeDepth := 6) [results, Tryd.results12, go_sem, *]) rfl ⟨rfl, B⟩
    · obtain ⟨z1, z2⟩ := HZ.out q2
      subst z1 z2
      clear HZ
      go_wp2_with fail
      refine (as_at GC a1 jr _ _ _ (E.1.below B) R.2.1 R.2.2.1 R.2.2.2.1 R.2.2.2.2).mono ?_
      rintro e v3 ⟨rfl, c0, hb⟩
      replace B := B.trans (hb.below HJ B.size)
      clear hb
      go_wp2_with fail
      go_quiet (fail)
      go_wp2_with fail
      exact bodyPost_ret (v := (.tuple #[.int .i64 0, .int .i64 0, .int .i64 GC])) (by simp (maxDischargeDepth := 6) [results, Tryd.results12, go_sem, *]) rfl ⟨rfl, below_dq B nq⟩
end Go.Proofs.YtcakhfobkbgfoaaDoor
namespace Go.Proofs.YtcakhfobkbgfoaaDoor
open Go.RowKit
set_option linter.unusedVariables false
theorem pickLit (B p : Nat) (w : World) (L : List Int) (hcur : CurOk w B p) (h0 : 0 < L.length) (h1 : L.length ≤ 100) :
    Calls Tryd.prog 44 #[.pointer (some ⟨p, 0, none⟩), .slice (some ⟨w.heap.size, 0, none⟩) L.length L.length] (w.alloc (.cells (L.map (Value.int .i64)).toArray 3)) fun e w' => ∃ v : Int, e = .returned (.int .i64 v) ∧ CurOk w' B p ∧ But p w w' := by
  have hb : Below w.heap.size w (w.alloc (.cells (L.map (Value.int .i64)).toArray 3)) := (Below.refl _ _).alloc (Nat.le_refl _) _
  have hl := hcur.lt
  refine (l1PickInt_any B p w.heap.size 0 L.length L.length _ (hcur.below hb) h0 h1 (by simp) (by omega) (fun j hj => ⟨L[j], by simp [hj]⟩)).mono ?_
  rintro e w' ⟨j, v, hj, _, rfl, hc, hw⟩
  exact ⟨v, rfl, hc, (But.of_below hb).trans hw⟩
def imnD (x y : Int) : Int := if x < y then x else y
set_option maxHeartbeats 400000 in
theorem l1MinD (x y : Int) (w : World) :
    Calls Tryd.prog 40 #[.int .i64 x, .int .i64 y] w fun e w' => ∃ v : Int, e = .returned (.int .i64 v) ∧ w = w' := by
  go_enter Tryd.func40, Tryd.ntmps40
  go_wp2
  all_goals go_ret
  all_goals exact ⟨_, rfl, rfl⟩
set_option maxHeartbeats 400000 in
theorem l1MaxD (x y : Int) (w : World) :
    Calls Tryd.prog 76 #[.int .i64 x, .int .i64 y] w fun e w' => ∃ v : Int, e = .returned (.int .i64 v) ∧ w = w' := by
  go_enter Tryd.func76, Tryd.ntmps76
  go_wp2
  all_goals go_ret
  all_goals exact ⟨_, rfl, rfl⟩
theorem CurOk.setOther {w : World} {B p : Nat} (h : CurOk w B p) {k : Nat} (hk : k ≠ p) (hB : B ≤ k) (o : Nat) (u : Value) : CurOk (w.setCell ⟨k, o, none⟩ u) B p := by
  obtain ⟨a, n, c, i, hh, h0, h1, h2, f0, f1, f2, hi, hn, hc, hBp, hp⟩ := h
  have hne : ∀ q, (⟨k, o, none⟩ : Addr) ≠ ⟨p, q, none⟩ := fun q e => hk (congrArg Addr.block e)
  refine ⟨a, n, c, i, hh, ?_, ?_, ?_, by simpa using f0, by simpa using f1, by simpa using f2, hi, hn, hc.below ((Below.refl _ _).setCell hB _), hBp, by simpa using hp⟩
  · rw [World.cell?_setCell_other _ _ _ _ (hne _)]; exact h0
  · rw [World.cell?_setCell_other _ _ _ _ (hne _)]; exact h1
  · rw [World.cell?_setCell_other _ _ _ _ (hne _)]; exact h2
theorem But.setNew {p : Nat} {a w : World} (h : But p a w) {k : Nat} (hk : a.heap.size ≤ k) (o : Nat) (u : Value) : But p a (w.setCell ⟨k, o, none⟩ u) :=
  ⟨h.1, h.2.1, h.2.2.1, by rw [World.size_setCell]; exact h.2.2.2.1, fun j hj hp => (Below.heap_setCell w ⟨k, o, none⟩ u j (by simp; omega)).trans (h.2.2.2.2 j hj hp)⟩
theorem But.alloc {p : Nat} {a w : World} (h : But p a w) (o : Obj) : But p a (w.alloc o) :=
  h.trans (But.of_below ((Below.refl _ _).alloc (Nat.le_refl _) _))
end Go.Proofs.YtcakhfobkbgfoaaDoor
namespace Go.Proofs.YtcakhfobkbgfoaaDoor
open Go.RowKit
set_option linter.unusedVariables false
theorem curNew (w : World) (a : Option Addr) (n c : Nat) (h : Int) (T : TypeId) (hn : n ≤ 1048576) (hcode : CodeB w w.heap.size a n) : CurOk (w.alloc (.cells #[.slice a n c, .int .i64 0, .int .i64 h] T)) w.heap.size w.heap.size :=
  ⟨a, n, c, 0, h, by simp, by simp, by simp, by simp, by simp, by simp, Nat.zero_le _, hn, hcode.below ((Below.refl _ _).alloc (Nat.le_refl _) _), Nat.le_refl _, by simp⟩
set_option maxHeartbeats 1000000 in
theorem l1New_any (a : Option Addr) (n c : Nat) (w : World) (hn : n ≤ 1048576) (hcode : CodeB w w.heap.size a n) :
    Calls Tryd.prog 36 #[.slice a n c] w fun e w' => ∃ p, e = .returned (.pointer (some ⟨p, 0, none⟩)) ∧ CurOk w' w.heap.size p ∧ Below w.heap.size w w' := by
  have HC : Hid (CodeB w w.heap.size a n) := hcode
  clear hcode
  go_enter Tryd.func36, Tryd.ntmps36
  go_wp2_with fail
  go_loop [3, 4] (fun hv i => ∃ k : Nat, ∃ h : Int, k ≤ n ∧ i = .int .i64 k ∧ hv = .int .i64 h) (fun _ i => n - (intOf i).toNat)
  case atStart => exact ⟨0, _, Nat.zero_le _, rfl, rfl⟩
  case round =>
    obtain ⟨k, h, hk, rfl, rfl⟩ := hrel
    by_cases hlt : k < n
    · have hli : (k : Int) < (n : Int) := by omega
      by_cases h4 : (k : Int) < 4000
      · rcases HC.out with h0 | ⟨b, off, rfl, hb, hz⟩
        · omega
        · obtain ⟨z, hz, z0, z1⟩ := hz k hlt
          go_wp2_with fail
          go_round
          case rel => exact ⟨k + 1, _, by omega, by go_num, rfl⟩
          case measure => simp [intOf]; omega
      · have hd : decide ((k : Int) < 4000) = false := by simp; omega
        go_wp2_with fail
        go_ret
        exact ⟨_, rfl, curNew _ _ _ _ _ _ hn HC.out, (Below.refl _ _).alloc (Nat.le_refl _) _⟩
    · have hd : decide ((k : Int) < (n : Int)) = false := by simp; omega
      go_wp2_with fail
      go_ret
      exact ⟨_, rfl, curNew _ _ _ _ _ _ hn HC.out, (Below.refl _ _).alloc (Nat.le_refl _) _⟩
end Go.Proofs.YtcakhfobkbgfoaaDoor
namespace Go.Proofs.YtcakhfobkbgfoaaDoor
open Go.RowKit
set_option linter.unusedVariables false
theorem CurOk.drew {w : World} {B p : Nat} (h : CurOk w B p) : CurOk w.drew B p := h
theorem But.drew {p : Nat} {a w : World} (h : But p a w) : But p a w.drew := h
def Box (w : World) (k : Nat) (x y : Int) : Prop := k < w.heap.size ∧ w.cell? ⟨k, 0, none⟩ = some (.int .i64 x) ∧ w.cell? ⟨k, 1, none⟩ = some (.int .i64 y) ∧ w.frozen? ⟨k, 0, none⟩ = false ∧ w.frozen? ⟨k, 1, none⟩ = false
theorem Box.but {p k : Nat} {w w' : World} {x y : Int} (h : Box w k x y) (hw : But p w w') (hk : k ≠ p) : Box w' k x y :=
  ⟨Nat.lt_of_lt_of_le h.1 hw.2.2.2.1, by rw [hw.cell h.1 hk]; exact h.2.1, by rw [hw.cell h.1 hk]; exact h.2.2.1, by rw [hw.frozen h.1 hk]; exact h.2.2.2.1, by rw [hw.frozen h.1 hk]; exact h.2.2.2.2⟩
theorem Box.below {k : Nat} {w w' : World} {x y : Int} (h : Box w k x y) (hw : Below w.heap.size w w') : Box w' k x y :=
  ⟨Nat.lt_of_lt_of_le h.1 hw.size, by rw [hw.cell (p := ⟨k, 0, none⟩) h.1]; exact h.2.1, by rw [hw.cell (p := ⟨k, 1, none⟩) h.1]; exact h.2.2.1, by rw [hw.frozen (p := ⟨k, 0, none⟩) h.1]; exact h.2.2.2.1, by rw [hw.frozen (p := ⟨k, 1, none⟩) h.1]; exact h.2.2.2.2⟩
theorem Box.alloc {k : Nat} {w : World} {x y : Int} (h : Box w k x y) (o : Obj) : Box (w.alloc o) k x y := h.below ((Below.refl _ _).alloc (Nat.le_refl _) _)
theorem Box.setOther {k j : Nat} {w : World} {x y : Int} (h : Box w k x y) (hk : j ≠ k) (o : Nat) (u : Value) : Box (w.setCell ⟨j, o, none⟩ u) k x y := by
  have hne : ∀ q, (⟨j, o, none⟩ : Addr) ≠ ⟨k, q, none⟩ := fun q e => hk (congrArg Addr.block e)
  exact ⟨by simpa using h.1, by rw [World.cell?_setCell_other _ _ _ _ (hne _)]; exact h.2.1, by rw [World.cell?_setCell_other _ _ _ _ (hne _)]; exact h.2.2.1, by simpa using h.2.2.2.1, by simpa using h.2.2.2.2⟩
theorem Box.set {k : Nat} {w : World} {x y : Int} (h : Box w k x y) (x' y' : Int) : Box ((w.setCell ⟨k, 0, none⟩ (.int .i64 x')).setCell ⟨k, 1, none⟩ (.int .i64 y')) k x' y' := by
  refine ⟨by simpa using h.1, ?_, ?_, by simpa using h.2.2.2.1, by simpa using h.2.2.2.2⟩
  · rw [World.cell?_setCell_other _ _ _ _ (by simp), World.cell?_setCell_same _ _ _ h.2.1]
  · exact World.cell?_setCell_same _ _ _ (by rw [World.cell?_setCell_other _ _ _ _ (by simp)]; exact h.2.2.1)
theorem Box.new (w : World) (x y : Int) (T : TypeId) : Box (w.alloc (.cells #[.int .i64 x, .int .i64 y] T)) w.heap.size x y := ⟨by simp, by simp, by simp, by simp, by simp⟩
theorem CodeB.more {w : World} {B B' : Nat} {a : Option Addr} {n : Nat} (h : CodeB w B a n) (hB : B ≤ B') : CodeB w B' a n := by
  rcases h with h | ⟨b, off, h1, h2, h3⟩
  · exact .inl h
  · exact .inr ⟨b, off, h1, by omega, h3⟩
/- What a new world holds after an alloc or a store, for go_wp2's simp. -/
theorem Below.al (w : World) (o : Obj) : Below w.heap.size w (w.alloc o) := (Below.refl _ _).alloc (Nat.le_refl _) _
end Go.Proofs.YtcakhfobkbgfoaaDoor
namespace Go.Proofs.YtcakhfobkbgfoaaDoor
open Go.RowKit
set_option linter.unusedVariables false
set_option maxHeartbeats 1000000 in
theorem l2DrawCount_any (B p : Nat) (w : World) (hcur : CurOk w B p) :
    Calls Tryd.prog 79 #[.pointer (some ⟨p, 0, none⟩)] w fun e w' => ∃ v : Int, e = .returned (.int .i64 v) ∧ CurOk w' B p ∧ But p w w' := by
  go_enter Tryd.func79, Tryd.ntmps79
  go_wp2_with fail
  refine (l1Below_any B p 14 _ hcur).mono ?_; rintro e w1 ⟨x, rfl, xl, xh, xp, xz, w1c, w1b⟩
  clear xp xz
  cases hx0 : (x == 0)
  · cases hx1 : (x == 1)
    · cases hx2 : (x == 2)
      · go_wp2_with fail
        refine (l1Below_any B p 5000 _ w1c).mono ?_; rintro e w2 ⟨y, rfl, yl, yh, yp, yz, w2c, w2b⟩
        clear yp yz
        go_wp2_with fail
        go_ret
        exact ⟨_, rfl, w2c, w1b.trans w2b⟩
      · go_wp2_with fail
        refine (l1Below_any B p 6 _ w1c).mono ?_; rintro e w2 ⟨y, rfl, yl, yh, yp, yz, w2c, w2b⟩
        clear yp yz
        go_wp2_with fail
        go_ret
        exact ⟨_, rfl, w2c, w1b.trans w2b⟩
    · go_wp2_with fail
      refine (l1Below_any B p 1000000000 _ w1c).mono ?_; rintro e w2 ⟨y, rfl, yl, yh, yp, yz, w2c, w2b⟩
      clear yp yz
      go_wp2_with fail
      go_ret
      exact ⟨_, rfl, w2c, w1b.trans w2b⟩
  · go_wp2_with fail
    have hp := pickLit B p w1 [-1, 0, 1000000000000, 1000000000001, 500000000000, 666666666666, 9223372036854775807] w1c (by decide) (by decide); simp only [List.map_cons, List.map_nil, List.length_cons, List.length_nil, Nat.zero_add, Nat.reduceAdd] at hp; refine hp.mono ?_; clear hp; rintro e w3 ⟨v, rfl, w3c, w3b⟩
    go_wp2_with fail
    go_ret
    exact ⟨_, rfl, w3c, w1b.trans w3b⟩
set_option maxHeartbeats 3200000 in
theorem l2DrawDrift_any (B p : Nat) (w : World) (hcur : CurOk w B p) :
    Calls Tryd.prog 80 #[.pointer (some ⟨p, 0, none⟩)] w fun e w' => ∃ x y : Int, e = .returned (.agg #[.int .i64 x, .int .i64 y]) ∧ CurOk w' B p ∧ But p w w' := by
  have hpl := hcur.lt
  have hpw : w.heap.size ≠ p := by omega
  have hBw : B ≤ w.heap.size := by omega
  have A1 : Below w.heap.size w (w.alloc (.cells #[.int .i64 0, .int .i64 0] 27)) := Below.al _ _
  have R0 : Box (w.alloc (.cells #[.int .i64 0, .int .i64 0] 27)) w.heap.size 0 0 := Box.new w 0 0 27
  go_enter Tryd.func80, Tryd.ntmps80
  go_wp2_with fail
  refine (l1Below_any B p 6 _ (by exact hcur.below A1)).mono ?_
  rintro e w1 ⟨x, rfl, xl, xh, xp, xz, w1c, w1b⟩
  have R1 := R0.but w1b hpw
  have b1 : But p w w1 := (But.of_below A1).trans w1b
  clear xp xz R0 A1 w1b
  go_wp2_with fail
  refine (l1Below_any B p 90 _ w1c).mono ?_
  rintro e w2 ⟨y, rfl, yl, yh, yp, yz, w2c, w2b⟩
  have R2 := R1.but w2b hpw
  have b2 : But p w w2 := b1.trans w2b
  have q2 := w2c.lt
  have hk : w2.heap.size ≠ p := by omega
  have A2 : Below w2.heap.size w2 (w2.alloc (.cells #[.int .i64 x, .int .i64 (12 + y)] 27)) := Below.al _ _
  have N2 := Box.new w2 x (12 + y) 27
  clear yp yz R1 b1 w2b w1c
  go_wp2_with fail
  refine (l1Below_any B p 16 _ (by exact w2c.below A2)).mono ?_
  rintro e w3 ⟨z, rfl, zl, zh, zp, zz, w3c, w3b⟩
  have R3 := (R2.below A2).but w3b hpw
  have N3 := N2.but w3b hk
  have b3 : But p w w3 := (b2.alloc _).trans w3b
  have hwk : w.heap.size < w2.heap.size := R2.1
  have hwk' : w.heap.size ≤ w2.heap.size := by omega
  have hBk : B ≤ w2.heap.size := by omega
  have n1 : w.heap.size ≠ w2.heap.size := by omega
  have n2 : w2.heap.size ≠ w.heap.size := by omega
  clear zp zz R2 N2 b2 w3b A2 w2c hcur
  cases hz0 : (z == 0)
  · cases hz1 : (z == 1)
    · cases hz2 : (z == 2)
      · obtain ⟨g1, g2, g3, g4, g5⟩ := R3; obtain ⟨m1, m2, m3, m4, m5⟩ := N3
        go_wp2_with fail
        exact bodyPost_ret (v := .agg #[.int .i64 x, .int .i64 (12 + y)]) (by simp (maxDischargeDepth := 6) [results, Tryd.results80, go_sem, *]) rfl ⟨_, _, rfl, ((w3c.setOther hpw hBw _ _).setOther hpw hBw _ _), ((b3.setNew (Nat.le_refl _) _ _).setNew (Nat.le_refl _) _ _)⟩
      · obtain ⟨g1, g2, g3, g4, g5⟩ := R3; obtain ⟨m1, m2, m3, m4, m5⟩ := N3
        go_wp2_with fail
        exact bodyPost_ret (v := .agg #[.int .i64 0, .int .i64 1]) (by simp (maxDischargeDepth := 6) [results, Tryd.results80, go_sem, *]) rfl ⟨_, _, rfl, ((((w3c.setOther hk hBk _ _).setOther hk hBk _ _).setOther hpw hBw _ _).setOther hpw hBw _ _), ((((b3.setNew hwk' _ _).setNew hwk' _ _).setNew (Nat.le_refl _) _ _).setNew (Nat.le_refl _) _ _)⟩
    · go_wp2_with fail
      have hp := pickLit B p w3 [0, 1, -1, 3] w3c (by decide) (by decide); simp only [List.map_cons, List.map_nil, List.length_cons, List.length_nil, Nat.zero_add, Nat.reduceAdd] at hp; refine hp.mono ?_; clear hp; rintro e w4 ⟨v, rfl, w4c, w4b⟩
      have R4 := R3.but w4b hpw
      have N4 := N3.but w4b hk
      have b4 : But p w w4 := b3.trans w4b
      clear R3 N3 b3 w4b w3c
      go_wp2_with fail
      have hp := pickLit B p w4 [0, 1, 2, 3, 6, -1] w4c (by decide) (by decide); simp only [List.map_cons, List.map_nil, List.length_cons, List.length_nil, Nat.zero_add, Nat.reduceAdd] at hp; refine hp.mono ?_; clear hp; rintro e w5 ⟨u, rfl, w5c, w5b⟩
      have R5 := R4.but w5b hpw
      have N5 := N4.but w5b hk
      have b5 : But p w w5 := b4.trans w5b
      clear R4 N4 b4 w5b w4c
      obtain ⟨g1, g2, g3, g4, g5⟩ := R5; obtain ⟨m1, m2, m3, m4, m5⟩ := N5
      go_wp2_with fail
      exact bodyPost_ret (v := .agg #[.int .i64 v, .int .i64 u]) (by simp (maxDischargeDepth := 6) [results, Tryd.results80, go_sem, *]) rfl ⟨_, _, rfl, ((((w5c.setOther hk hBk _ _).setOther hk hBk _ _).setOther hpw hBw _ _).setOther hpw hBw _ _), ((((b5.setNew hwk' _ _).setNew hwk' _ _).setNew (Nat.le_refl _) _ _).setNew (Nat.le_refl _) _ _)⟩
  · go_wp2_with fail
    have hp := pickLit B p w3 [0, 1, 500000, 500001, 100] w3c (by decide) (by decide); simp only [List.map_cons, List.map_nil, List.length_cons, List.length_nil, Nat.zero_add, Nat.reduceAdd] at hp; refine hp.mono ?_; clear hp; rintro e w4 ⟨v, rfl, w4c, w4b⟩
    have R4 := R3.but w4b hpw
    have N4 := N3.but w4b hk
    have b4 : But p w w4 := b3.trans w4b
    clear R3 N3 b3 w4b w3c
    go_wp2_with fail
    have hp := pickLit B p w4 [1000000, 1000001, 999999] w4c (by decide) (by decide); simp only [List.map_cons, List.map_nil, List.length_cons, List.length_nil, Nat.zero_add, Nat.reduceAdd] at hp; refine hp.mono ?_; clear hp; rintro e w5 ⟨u, rfl, w5c, w5b⟩
    have R5 := R4.but w5b hpw
    have N5 := N4.but w5b hk
    have b5 : But p w w5 := b4.trans w5b
    clear R4 N4 b4 w5b w4c
    obtain ⟨g1, g2, g3, g4, g5⟩ := R5; obtain ⟨m1, m2, m3, m4, m5⟩ := N5
    go_wp2_with fail
    exact bodyPost_ret (v := .agg #[.int .i64 v, .int .i64 u]) (by simp (maxDischargeDepth := 6) [results, Tryd.results80, go_sem, *]) rfl ⟨_, _, rfl, ((((w5c.setOther hk hBk _ _).setOther hk hBk _ _).setOther hpw hBw _ _).setOther hpw hBw _ _), ((((b5.setNew hwk' _ _).setNew hwk' _ _).setNew (Nat.le_refl _) _ _).setNew (Nat.le_refl _) _ _)⟩
set_option maxHeartbeats 400000 in
theorem big_any (a : Option Addr) (n c : Nat) (w : World) :
    Calls Tryd.prog 10 #[.slice a n c] w fun e w' => e = .returned (.bool (decide (1048576 < (n : Int)))) ∧ w = w' := by
  go_enter Tryd.func10, Tryd.ntmps10
  go_wp2
  go_ret
  exact ⟨rfl, rfl⟩
set_option maxHeartbeats 400000 in
theorem at_any (a : Option Addr) (n c i B : Nat) (w : World) (hn : n ≤ 1048576) (hi : i ≤ 1000) (hcode : CodeB w B a n) :
    Calls Tryd.prog 17 #[.slice a n c, .int .i64 i] w fun e w' => ∃ x : Int, e = .returned (.int .i64 x) ∧ 0 ≤ x ∧ x ≤ 255 ∧ w = w' := by
  by_cases h : i < n
  · have hd : (i : Int) < (n : Int) := by omega
    rcases hcode with h0 | ⟨b, off, rfl, hb, hz⟩
    · omega
    · obtain ⟨z, hz, z0, z1⟩ := hz i h
      go_enter Tryd.func17, Tryd.ntmps17
      go_wp2_with fail
      go_ret
      exact ⟨z, rfl, z0, z1, rfl⟩
  · have hd : decide ((i : Int) < (n : Int)) = false := by simp; omega
    have hm := Int.emod_lt_of_pos ((i : Int) * 7 + n) (b := 256) (by omega)
    have hm0 := Int.emod_nonneg ((i : Int) * 7 + n) (b := 256) (by omega)
    clear hcode
    go_enter Tryd.func17, Tryd.ntmps17
    go_wp2_with fail
    go_ret
    exact ⟨_, rfl, by omega, by omega, rfl⟩
end Go.Proofs.YtcakhfobkbgfoaaDoor
namespace Go.Proofs.YtcakhfobkbgfoaaDoor
open Go.RowKit
set_option linter.unusedVariables false
/- Numbers of occurrences: two of them lie apart; each time of one is found in it. -/
theorem ocB_t {s g : Int} {M : Nat → SlT} {n : Nat} {i k : Int} (h : ocB s g M n i k = true) : ocG s g M n i k = true ∧ okI (ocF s g M n i k) (ocF s g M n i k + (M i.toNat).2) = true := by
  unfold ocB at h
  rw [Bool.and_eq_true] at h
  exact h
theorem ocG_k {s g : Int} {M : Nat → SlT} {n : Nat} {i k : Int} (h : ocG s g M n i k = true) : sfB s g M n i = true ∧ okK (upS g M n) k = true := by
  unfold ocG at h
  rw [Bool.and_eq_true] at h
  exact h
/- What an occurrence that is told is made of. -/
theorem oc_parts {s g : Int} {M : Nat → SlT} {n : Nat} {i k : Int} (h : ocB s g M n i k = true) :
    plB s g M n = true ∧ i.toNat < n ∧ (i.toNat : Int) = i ∧ 0 ≤ k ∧ ocL s g M n i k = s + k * upS g M n + upS g M i.toNat ∧ ocH s g M n i k = s + k * upS g M n + upS g M i.toNat + (M i.toNat).2 ∧ 1 ≤ (M i.toNat).2 ∧ 0 ≤ upS g M i.toNat ∧ upS g M i.toNat + (M i.toNat).2 ≤ upS g M n ∧ 0 ≤ s ∧ ocH s g M n i k ≤ 1000000000000 ∧ okK (upS g M n) k = true ∧ 1 ≤ upS g M n ∧ 0 ≤ k * upS g M n := by
  obtain ⟨hG, hI⟩ := ocB_t h
  obtain ⟨b1, b2, b3, b4, b5, b6, b7⟩ := ocG_bd hG
  obtain ⟨g1, g2⟩ := ocG_k hG
  obtain ⟨p1, p2, p3, p4⟩ := plB_t b7
  obtain ⟨y1, y2⟩ := oc_yes h
  have hr := rn_bd b7
  have hk := okK_t hr.1 g2
  have hu := upS_bd p2 p4 i.toNat (by omega)
  have ha := upS_add p2 p4 b5 (Nat.le_refl n)
  have i1 := okI_t hI
  refine ⟨b7, b5, b6, hk.1, y1, y2, b4.1, by omega, by omega, p1.1, by rw [y2]; exact i1.2.2, g2, hr.1, b1.1⟩
theorem mul_step {k m r : Int} (h : k < m) (hr : 0 ≤ r) : k * r + r ≤ m * r := by
  have := Int.mul_le_mul_of_nonneg_right (show k + 1 ≤ m by omega) hr
  rw [Int.add_mul, Int.one_mul] at this
  exact this
theorem oc_apart {s g : Int} {M : Nat → SlT} {n : Nat} {i k j m : Int} (ha : ocB s g M n i k = true) (hb : ocB s g M n j m = true) (hne : i ≠ j ∨ k ≠ m) :
    ¬ (ocL s g M n i k < ocH s g M n j m ∧ ocL s g M n j m < ocH s g M n i k) := by
  obtain ⟨a1, a2, a3, a4, a5, a6, a7, a8, a9, a10, a11, a12, a13, a14⟩ := oc_parts ha
  obtain ⟨b1, b2, b3, b4, b5, b6, b7, b8, b9, b10, b11, b12, b13, b14⟩ := oc_parts hb
  obtain ⟨p1, p2, p3, p4⟩ := plB_t a1
  rw [a5, a6, b5, b6]
  by_cases hk : k < m
  · have := mul_step hk (show 0 ≤ upS g M n by omega)
    omega
  · by_cases hm : m < k
    · have := mul_step hm (show 0 ≤ upS g M n by omega)
      omega
    · have e : k = m := by omega
      subst e
      by_cases hij : i.toNat < j.toNat
      · have := upS_add p2 p4 hij (by omega)
        omega
      · by_cases hji : j.toNat < i.toNat
        · have := upS_add p2 p4 hji (by omega)
          omega
        · omega
theorem div_is {x k r : Int} (hr : 1 ≤ r) (h1 : k * r ≤ x) (h2 : x < k * r + r) : x / r = k := by
  have e : x = (x - k * r) + k * r := by omega
  rw [e, Int.add_mul_ediv_right _ _ (by omega), Int.ediv_eq_zero_of_lt (by omega) (by omega), Int.zero_add]
/- A time of an occurrence is found in it. -/
theorem oc_found {s g : Int} {M : Nat → SlT} {n : Nat} {i k t : Int} (h : ocB s g M n i k = true) (h1 : ocL s g M n i k ≤ t) (h2 : t < ocH s g M n i k) :
    saB s g M n t = true ∧ saI s g M n t = i ∧ saK s g M n t = k := by
  obtain ⟨a1, a2, a3, a4, a5, a6, a7, a8, a9, a10, a11, a12, a13, a14⟩ := oc_parts h
  obtain ⟨p1, p2, p3, p4⟩ := plB_t a1
  have hR : saR s g M n t = k := by
    unfold saR
    exact div_is a13 (by omega) (by omega)
  have hG : saG s g M n t = true := by
    unfold saG okT
    rw [a1, decide_eq_true (⟨by omega, by omega⟩ : 0 ≤ t ∧ t ≤ 1000000000000), decide_eq_false (by omega : ¬ t < s)]
    rfl
  have hP : saP s g M n t i.toNat = true := by
    unfold saP
    rw [hR, a3, h, decide_eq_true h1, decide_eq_true h2]
    rfl
  have hN : ∀ j, j < i.toNat → saP s g M n t j = false := by
    intro j hj
    unfold saP
    rw [hR]
    cases hb : ocB s g M n (j : Int) k
    · rfl
    · obtain ⟨b1, b2, b3, b4, b5, b6, b7, b8, b9, b10, b11, b12, b13, b14⟩ := oc_parts hb
      have hjj : (j : Int).toNat = j := by omega
      have := upS_add p2 p4 hj (by omega)
      rw [hjj] at b6
      rw [decide_eq_false (by omega : ¬ t < ocH s g M n (j : Int) k)]
      simp
  have hF : fnd (saP s g M n t) n = i.toNat := by
    have e : ∀ j, j ≤ i.toNat → fnd (saP s g M n t) j = j := by
      intro j
      induction j with
      | zero => intro _; rfl
      | succ j ih => intro hj; exact fnd_miss (ih (by omega)) (hN j (by omega))
    exact fnd_is (e _ (Nat.le_refl _)) hP a2
  have hB : saB s g M n t = true := by
    unfold saB
    rw [hG, hF, decide_eq_true a2]
    rfl
  obtain ⟨y1, y2, y3, y4⟩ := sa_yes hB
  exact ⟨hB, by rw [y1, hF, a3], by rw [y2, hR]⟩
/- What SlotAt tells holds the time. -/
theorem sa_holds {s g : Int} {M : Nat → SlT} {n : Nat} {t : Int} (h : saB s g M n t = true) : ocB s g M n (saI s g M n t) (saK s g M n t) = true ∧ ocL s g M n (saI s g M n t) (saK s g M n t) ≤ t ∧ t < ocH s g M n (saI s g M n t) (saK s g M n t) := by
  obtain ⟨y1, y2, y3, y4⟩ := sa_yes h
  have := fnd_so y3
  unfold saP at this
  simp only [Bool.and_eq_true, decide_eq_true_eq] at this
  rw [y1, y2]
  exact this
theorem oc_behind {s g : Int} {M : Nat → SlT} {n : Nat} {i k : Int} : ¬ (saB s g M n (ocH s g M n i k) = true ∧ saI s g M n (ocH s g M n i k) = i ∧ saK s g M n (ocH s g M n i k) = k) := by
  rintro ⟨h1, h2, h3⟩
  have := (sa_holds h1).2.2
  rw [h2, h3] at this
  omega
theorem oc_from {s g : Int} {M : Nat → SlT} {n : Nat} {i k : Int} (h : ocB s g M n i k = true) : sfB s g M n i = true ∧ sfI s g M n i = ocL s g M n i k - s - k * rnI s g M n := by
  obtain ⟨a1, a2, a3, a4, a5, a6, a7, a8, a9, a10, a11, a12, a13, a14⟩ := oc_parts h
  have hs := (ocG_k (ocB_t h).1).1
  refine ⟨hs, ?_⟩
  unfold sfI
  rw [hs, a5, rnI_t a1]
  show upS g M i.toNat = _
  omega
end Go.Proofs.YtcakhfobkbgfoaaDoor
