/- Contracts of the mail: net, has. -/
import Derived.Test.YtfdcjfebfbpliaaN60
import Derived.Deep.RegionHeld3
import Derived.Deep.DeepCutAuto
import Derived.WalkKit
import Derived.WalkSpells
import Derived.WalkLawsBesides
import Derived.Deep.RegionHeld
namespace Go.Proofs.Ytfdcjfebfbpliaa
open Go.RowKit
set_option linter.unusedVariables false
def B2 (w : World) (j : Nat) (u0 u1 : Value) : Prop := j < w.heap.size ∧ w.cell? ⟨j, 0, none⟩ = some u0 ∧ w.cell? ⟨j, 1, none⟩ = some u1 ∧ w.frozen? ⟨j, 0, none⟩ = false ∧ w.frozen? ⟨j, 1, none⟩ = false
theorem B2.belowB {w w' : World} {B j : Nat} {u0 u1 : Value} (h : B2 w j u0 u1) (hb : Below B w w') (hj : j < B) : B2 w' j u0 u1 :=
  ⟨Nat.lt_of_lt_of_le h.1 hb.size, by rw [hb.cell (p := ⟨j, 0, none⟩) hj]; exact h.2.1, by rw [hb.cell (p := ⟨j, 1, none⟩) hj]; exact h.2.2.1, by rw [hb.frozen (p := ⟨j, 0, none⟩) hj]; exact h.2.2.2.1, by rw [hb.frozen (p := ⟨j, 1, none⟩) hj]; exact h.2.2.2.2⟩
theorem B2.below {w w' : World} {j : Nat} {u0 u1 : Value} (h : B2 w j u0 u1) (hb : Below w.heap.size w w') : B2 w' j u0 u1 := h.belowB hb h.1
theorem B2.but {w w' : World} {j q : Nat} {u0 u1 : Value} (h : B2 w j u0 u1) (hb : But q w w') (hq : j ≠ q) : B2 w' j u0 u1 :=
  ⟨Nat.lt_of_lt_of_le h.1 hb.2.2.2.1, by rw [hb.cell h.1 hq]; exact h.2.1, by rw [hb.cell h.1 hq]; exact h.2.2.1, by rw [hb.frozen h.1 hq]; exact h.2.2.2.1, by rw [hb.frozen h.1 hq]; exact h.2.2.2.2⟩
theorem B2.new (w : World) (u0 u1 : Value) (T : TypeId) : B2 (w.alloc (.cells #[u0, u1] T)) w.heap.size u0 u1 := ⟨by simp, by simp, by simp, by simp, by simp⟩
theorem B2.drew {w : World} {j : Nat} {u0 u1 : Value} (h : B2 w j u0 u1) : B2 w.drew j u0 u1 := h
theorem put5_but (w : World) (j o : Nat) (a0 a1 a2 a3 a4 : Value) : But j w (((((w.setCell ⟨j, o, none⟩ a0).setCell ⟨j, o + 1, none⟩ a1).setCell ⟨j, o + 2, none⟩ a2).setCell ⟨j, o + 3, none⟩ a3).setCell ⟨j, o + 4, none⟩ a4) := (((((But.refl j w).setCell _ a0).setCell _ a1).setCell _ a2).setCell _ a3).setCell _ a4
theorem fv_tup {M : FT} {x0 x1 x2 : Int} {x3 : ByteArray} {x4 : Int} (h : M = (x0, x1, x2, x3, x4)) : fv M = .agg #[.int .i64 x0, .int .i64 x1, .int .i64 x2, .string x3, .int .i64 x4] := by subst h; rfl
set_option maxRecDepth 100000 in
set_option maxHeartbeats 4000000 in
theorem mailNet_any (nx : Int) (bm br n q : Nat) (F : Int → Option FT) (G : Nat → FT) (w : World) (hn : n ≤ 40) (hM : MapI w bm q F) (hR : RowF w br 3 n n (idF G)) (hG : ∀ j, j < n → F (G j).1 = some (G j)) (hw : ∀ j, j < n → (Lit.int .i64 (G j).1).wf = true) :
    Calls Try.prog 24 #[.agg #[.int .i64 nx, .map (some bm), .slice (some ⟨br, 0, none⟩) n n]] w fun e w' => ∃ b, e = .returned (.agg #[.int .i64 nx, .slice (some ⟨b, 0, none⟩) n n]) ∧ w.heap.size ≤ b ∧ RowF w' b 30 (n * 5) (n * 5) (MFFlight G) ∧ Below w.heap.size w w' := by
  have hmk := mk_rowFlight n (by omega)
  have HG : Hid (∀ j, j < n → F (G j).1 = some (G j)) := hG
  have HW : Hid (∀ j, j < n → (Lit.int .i64 (G j).1).wf = true) := hw
  have bml := hM.lt
  have brl := hR.lt
  have A1 := Below.nw w (.cells #[.int .i64 nx, .map (some bm), .slice (some ⟨br, 0, none⟩) n n] 44)
  have A2 := A1.alloc A1.size (.cells #[.int .i64 0, .slice none 0 0] 26)
  have X := (MB.new w (.int .i64 nx) (.map (some bm)) (.slice (some ⟨br, 0, none⟩) n n) 44).below (Below.nw _ (.cells #[.int .i64 0, .slice none 0 0] 26))
  have R := B2.new (w.alloc (.cells #[.int .i64 nx, .map (some bm), .slice (some ⟨br, 0, none⟩) n n] 44)) (.int .i64 0) (.slice none 0 0) 26
  have MP := hM.below A2
  have RW := RowF.below' A2 hR
  simp only [World.size_alloc] at R
  clear hG hw hM hR A1
  have hz2 : ((w.alloc (.cells #[.int .i64 nx, .map (some bm), .slice (some ⟨br, 0, none⟩) n n] 44)).alloc (.cells #[.int .i64 0, .slice none 0 0] 26)).heap.size = w.heap.size + 1 + 1 := by simp
  obtain ⟨x0', x1', x2', x3', _, _, _⟩ := id X
  go_enter Try.func24, Try.ntmps24
  go_wp2_with fail
  have A3 := Below.nw ((w.alloc (.cells #[.int .i64 nx, .map (some bm), .slice (some ⟨br, 0, none⟩) n n] 44)).alloc (.cells #[.int .i64 0, .slice none 0 0] 26)) (rowObjFlight n)
  have X3 := X.below A3
  have R3 := R.below A3
  have MP3 := MP.below A3
  have RW3 := RowF.below' A3 RW
  have B3 := A2.trans (A3.mono A2.size)
  have NW := rowObjFlight_is ((w.alloc (.cells #[.int .i64 nx, .map (some bm), .slice (some ⟨br, 0, none⟩) n n] 44)).alloc (.cells #[.int .i64 0, .slice none 0 0] 26)) n (MFFlight G)
  rw [hz2] at NW
  clear X R MP RW A2 A3 hmk x0' x1' x2' x3' hz2
  go_loopw [13] (fun i wr => ∃ k : Nat, k ≤ n ∧ i = .int .i64 k ∧ RowF wr (w.heap.size + 1 + 1) 30 (n * 5) (k * 5) (MFFlight G) ∧ MB wr w.heap.size (.int .i64 nx) (.map (some bm)) (.slice (some ⟨br, 0, none⟩) n n) ∧ B2 wr (w.heap.size + 1) (.int .i64 0) (.slice none 0 0) ∧ MapI wr bm q F ∧ RowF wr br 3 n n (idF G) ∧ Below w.heap.size w wr) (fun i _ => n - (intOf i).toNat)
  case atStart => exact ⟨0, Nat.zero_le _, rfl, NW.eqm (by omega), X3, R3, MP3, RW3, B3⟩
  case round =>
    clear NW X3 R3 MP3 RW3 B3
    obtain ⟨k, hk, rfl, NW, X, R, MP, RW, B⟩ := hrel
    obtain ⟨k0, k1, k2, k3, _, _, _⟩ := id X
    by_cases hlt : k < n
    · have hli : (k : Int) < (n : Int) := by omega
      have ci : wr.cell? ⟨br, k, none⟩ = some (.int .i64 (G k).1) := by have := (RW.cs (Nat.le_refl _)).2 k hlt; rw [Nat.zero_add] at this; exact this
      obtain ⟨x0, x1, x2, x3, x4, hM⟩ := tupFlight G k
      obtain ⟨q0, q1, q2, q3, q4⟩ := MFFlight_vals hM
      have hlk := MP.look (HW.out k hlt)
      rw [HG.out k hlt, Option.getD_some, fv_tup hM, hM] at hlk
      rw [hM] at ci
      have hlr := NW.lt
      clear hM
      obtain ⟨⟨v0, e0⟩, f0⟩ := NW.facts (k * 5) (by omega)
      obtain ⟨⟨v1, e1⟩, f1⟩ := NW.facts (k * 5 + 1) (by omega)
      obtain ⟨⟨v2, e2⟩, f2⟩ := NW.facts (k * 5 + 2) (by omega)
      obtain ⟨⟨v3, e3⟩, f3⟩ := NW.facts (k * 5 + 3) (by omega)
      obtain ⟨⟨v4, e4⟩, f4⟩ := NW.facts (k * 5 + 4) (by omega)
      go_wp2_with fail
      have PB := put5_but wr (w.heap.size + 1 + 1) (k * 5) (.int .i64 x0) (.int .i64 x1) (.int .i64 x2) (.string x3) (.int .i64 x4)
      go_roundw
      case rel => exact ⟨k + 1, by omega, by go_num, (((((NW.put (k * 5 + 1) (by omega) q0).put (k * 5 + 2) (by omega) q1).put (k * 5 + 3) (by omega) q2).put (k * 5 + 4) (by omega) q3).put ((k + 1) * 5) (by omega) q4), X.but PB (by omega), R.but PB (by omega), MP.but PB (by omega), RW.but PB (by omega), B.trans (PB.below (by omega) B.size)⟩
      case measure => simp [intOf]; omega
    · have hkn : k = n := by omega
      subst hkn
      have hli : ¬ (k : Int) < (k : Int) := by omega
      obtain ⟨r0, r1, r2, r3, r4⟩ := id R
      go_wp2_with fail
      have PB := ((But.refl (w.heap.size + 1) wr).setCell 0 (.int .i64 nx)).setCell 1 (.slice (some ⟨w.heap.size + 1 + 1, 0, none⟩) k k)
      exact bodyPost_ret (v := .agg #[.int .i64 nx, .slice (some ⟨w.heap.size + 1 + 1, 0, none⟩) k k]) (by simp (maxDischargeDepth := 6) [results, Try.results24, go_sem, *]) rfl ⟨w.heap.size + 1 + 1, rfl, by omega, NW.but PB (by omega), B.trans (PB.below (by omega) B.size)⟩
set_option maxHeartbeats 1000000 in
theorem mailHas_any (nx i : Int) (bm br n : Nat) (w : World) (hn : n ≤ 40) :
    Calls Try.prog 23 #[.agg #[.int .i64 nx, .map (some bm), .slice (some ⟨br, 0, none⟩) n n], .int .i64 i] w fun e w' => e = .returned (.bool (decide (0 ≤ i ∧ i < n))) ∧ Below w.heap.size w w' := by
  by_cases h1 : 0 ≤ i
  · by_cases h2 : i < (n : Int)
    · have d1 : decide (0 ≤ i) = true := decide_eq_true h1
      have d2 : decide (i < (n : Int)) = true := decide_eq_true h2
      have d3 : decide (0 ≤ i ∧ i < (n : Int)) = true := decide_eq_true ⟨h1, h2⟩
      rw [d3]
      go_enter Try.func23, Try.ntmps23
      go_wp2
      go_ret
      exact ⟨rfl, Below.nw _ _⟩
    · have d1 : decide (0 ≤ i) = true := decide_eq_true h1
      have d2 : decide (i < (n : Int)) = false := decide_eq_false h2
      have d3 : decide (0 ≤ i ∧ i < (n : Int)) = false := decide_eq_false (fun h => h2 h.2)
      rw [d3]
      go_enter Try.func23, Try.ntmps23
      go_wp2
      go_ret
      exact ⟨rfl, Below.nw _ _⟩
  · have d1 : decide (0 ≤ i) = false := decide_eq_false h1
    have d3 : decide (0 ≤ i ∧ i < (n : Int)) = false := decide_eq_false (fun h => h1 h.1)
    rw [d3]
    go_enter Try.func23, Try.ntmps23
    go_wp2
    go_ret
    exact ⟨rfl, Below.nw _ _⟩
end Go.Proofs.Ytfdcjfebfbpliaa
