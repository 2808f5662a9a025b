/- Contracts of the mail: net, has. Contracts of the mail: at, take. The contract of the mail: take. Rows of flights; contracts of spec.l5Copy and spec.NetTake. -/
import Derived.Test.YtgfhcilhibbooaaMf2
import Derived.Deep.RegionHeld3
import Derived.Deep.DeepCutAuto
import Derived.WalkKit
import Derived.WalkSpells
import Derived.WalkLawsBesides
import Derived.Deep.RegionHeld
import Derived.Laws.CopyOwn
import Derived.Laws.OwnMore
import Derived.MapKept
namespace Go.Proofs.Ytgfhcilhibbooaa
open Go.RowKit
set_option linter.unusedVariables false
def B2 (w : World) (j : Nat) (u0 u1 : Value) : Prop := j < w.heap.size ∧ w.cell? ⟨j, 0, none⟩ = some u0 ∧ w.cell? ⟨j, 1, none⟩ = some u1 ∧ w.frozen? ⟨j, 0, none⟩ = false ∧ w.frozen? ⟨j, 1, none⟩ = false
theorem B2.belowB {w w' : World} {B j : Nat} {u0 u1 : Value} (h : B2 w j u0 u1) (hb : Below B w w') (hj : j < B) : B2 w' j u0 u1 :=
  ⟨Nat.lt_of_lt_of_le h.1 hb.size, by rw [hb.cell (p := ⟨j, 0, none⟩) hj]; exact h.2.1, by rw [hb.cell (p := ⟨j, 1, none⟩) hj]; exact h.2.2.1, by rw [hb.frozen (p := ⟨j, 0, none⟩) hj]; exact h.2.2.2.1, by rw [hb.frozen (p := ⟨j, 1, none⟩) hj]; exact h.2.2.2.2⟩
theorem B2.below {w w' : World} {j : Nat} {u0 u1 : Value} (h : B2 w j u0 u1) (hb : Below w.heap.size w w') : B2 w' j u0 u1 := h.belowB hb h.1
theorem B2.but {w w' : World} {j q : Nat} {u0 u1 : Value} (h : B2 w j u0 u1) (hb : But q w w') (hq : j ≠ q) : B2 w' j u0 u1 :=
  ⟨Nat.lt_of_lt_of_le h.1 hb.2.2.2.1, by rw [hb.cell h.1 hq]; exact h.2.1, by rw [hb.cell h.1 hq]; exact h.2.2.1, by rw [hb.frozen h.1 hq]; exact h.2.2.2.1, by rw [hb.frozen h.1 hq]; exact h.2.2.2.2⟩
theorem B2.new (w : World) (u0 u1 : Value) (T : TypeId) : B2 (w.alloc (.cells #[u0, u1] T)) w.heap.size u0 u1 := ⟨by simp, by simp, by simp, by simp, by simp⟩
theorem B2.drew {w : World} {j : Nat} {u0 u1 : Value} (h : B2 w j u0 u1) : B2 w.drew j u0 u1 := h
theorem put5_but (w : World) (j o : Nat) (a0 a1 a2 a3 a4 : Value) : But j w (((((w.setCell ⟨j, o, none⟩ a0).setCell ⟨j, o + 1, none⟩ a1).setCell ⟨j, o + 2, none⟩ a2).setCell ⟨j, o + 3, none⟩ a3).setCell ⟨j, o + 4, none⟩ a4) := (((((But.refl j w).setCell _ a0).setCell _ a1).setCell _ a2).setCell _ a3).setCell _ a4
theorem fv_tup {M : FT} {x0 x1 x2 : Int} {x3 : ByteArray} {x4 : Int} (h : M = (x0, x1, x2, x3, x4)) : fv M = .agg #[.int .i64 x0, .int .i64 x1, .int .i64 x2, .string x3, .int .i64 x4] := by subst h; rfl
set_option maxRecDepth 100000 in
set_option maxHeartbeats 4000000 in
theorem mailNet_any (nx : Int) (bm br n q : Nat) (F : Int → Option FT) (G : Nat → FT) (w : World) (hn : n ≤ 40) (hM : MapI w bm q F) (hR : RowF w br 3 n n (idF G)) (hG : ∀ j, j < n → F (G j).1 = some (G j)) (hw : ∀ j, j < n → (Lit.int .i64 (G j).1).wf = true) :
    Calls Try.prog 25 #[.agg #[.int .i64 nx, .map (some bm), .slice (some ⟨br, 0, none⟩) n n]] w fun e w' => ∃ b, e = .returned (.agg #[.int .i64 nx, .slice (some ⟨b, 0, none⟩) n n]) ∧ w.heap.size ≤ b ∧ RowF w' b 30 (n * 5) (n * 5) (MFFlight G) ∧ Below w.heap.size w w' := by
  have hmk := mk_rowFlight n (by omega)
  have HG : Hid (∀ j, j < n → F (G j).1 = some (G j)) := hG
  have HW : Hid (∀ j, j < n → (Lit.int .i64 (G j).1).wf = true) := hw
  have bml := hM.lt
  have brl := hR.lt
  have A1 := Below.nw w (.cells #[.int .i64 nx, .map (some bm), .slice (some ⟨br, 0, none⟩) n n] 53)
  have A2 := A1.alloc A1.size (.cells #[.int .i64 0, .slice none 0 0] 26)
  have X := (MB.new w (.int .i64 nx) (.map (some bm)) (.slice (some ⟨br, 0, none⟩) n n) 53).below (Below.nw _ (.cells #[.int .i64 0, .slice none 0 0] 26))
  have R := B2.new (w.alloc (.cells #[.int .i64 nx, .map (some bm), .slice (some ⟨br, 0, none⟩) n n] 53)) (.int .i64 0) (.slice none 0 0) 26
  have MP := hM.below A2
  have RW := RowF.below' A2 hR
  simp only [World.size_alloc] at R
  clear hG hw hM hR A1
  have hz2 : ((w.alloc (.cells #[.int .i64 nx, .map (some bm), .slice (some ⟨br, 0, none⟩) n n] 53)).alloc (.cells #[.int .i64 0, .slice none 0 0] 26)).heap.size = w.heap.size + 1 + 1 := by simp
  obtain ⟨x0', x1', x2', x3', _, _, _⟩ := id X
  go_enter Try.func25, Try.ntmps25
  go_wp2_with fail
  have A3 := Below.nw ((w.alloc (.cells #[.int .i64 nx, .map (some bm), .slice (some ⟨br, 0, none⟩) n n] 53)).alloc (.cells #[.int .i64 0, .slice none 0 0] 26)) (rowObjFlight n)
  have X3 := X.below A3
  have R3 := R.below A3
  have MP3 := MP.below A3
  have RW3 := RowF.below' A3 RW
  have B3 := A2.trans (A3.mono A2.size)
  have NW := rowObjFlight_is ((w.alloc (.cells #[.int .i64 nx, .map (some bm), .slice (some ⟨br, 0, none⟩) n n] 53)).alloc (.cells #[.int .i64 0, .slice none 0 0] 26)) n (MFFlight G)
  rw [hz2] at NW
  clear X R MP RW A2 A3 hmk x0' x1' x2' x3' hz2
  go_loopw [13] (fun i wr => ∃ k : Nat, k ≤ n ∧ i = .int .i64 k ∧ RowF wr (w.heap.size + 1 + 1) 30 (n * 5) (k * 5) (MFFlight G) ∧ MB wr w.heap.size (.int .i64 nx) (.map (some bm)) (.slice (some ⟨br, 0, none⟩) n n) ∧ B2 wr (w.heap.size + 1) (.int .i64 0) (.slice none 0 0) ∧ MapI wr bm q F ∧ RowF wr br 3 n n (idF G) ∧ Below w.heap.size w wr) (fun i _ => n - (intOf i).toNat)
  case atStart => exact ⟨0, Nat.zero_le _, rfl, NW.eqm (by omega), X3, R3, MP3, RW3, B3⟩
  case round =>
    clear NW X3 R3 MP3 RW3 B3
    obtain ⟨k, hk, rfl, NW, X, R, MP, RW, B⟩ := hrel
    obtain ⟨k0, k1, k2, k3, _, _, _⟩ := id X
    by_cases hlt : k < n
    · have hli : (k : Int) < (n : Int) := by omega
      have ci : wr.cell? ⟨br, k, none⟩ = some (.int .i64 (G k).1) := by have := (RW.cs (Nat.le_refl _)).2 k hlt; rw [Nat.zero_add] at this; exact this
      obtain ⟨x0, x1, x2, x3, x4, hM⟩ := tupFlight G k
      obtain ⟨q0, q1, q2, q3, q4⟩ := MFFlight_vals hM
      have hlk := MP.look (HW.out k hlt)
      rw [HG.out k hlt, Option.getD_some, fv_tup hM, hM] at hlk
      rw [hM] at ci
      have hlr := NW.lt
      clear hM
      obtain ⟨⟨v0, e0⟩, f0⟩ := NW.facts (k * 5) (by omega)
      obtain ⟨⟨v1, e1⟩, f1⟩ := NW.facts (k * 5 + 1) (by omega)
      obtain ⟨⟨v2, e2⟩, f2⟩ := NW.facts (k * 5 + 2) (by omega)
      obtain ⟨⟨v3, e3⟩, f3⟩ := NW.facts (k * 5 + 3) (by omega)
      obtain ⟨⟨v4, e4⟩, f4⟩ := NW.facts (k * 5 + 4) (by omega)
      go_wp2_with fail
      have PB := put5_but wr (w.heap.size + 1 + 1) (k * 5) (.int .i64 x0) (.int .i64 x1) (.int .i64 x2) (.string x3) (.int .i64 x4)
      go_roundw
      case rel => exact ⟨k + 1, by omega, by go_num, (((((NW.put (k * 5 + 1) (by omega) q0).put (k * 5 + 2) (by omega) q1).put (k * 5 + 3) (by omega) q2).put (k * 5 + 4) (by omega) q3).put ((k + 1) * 5) (by omega) q4), X.but PB (by omega), R.but PB (by omega), MP.but PB (by omega), RW.but PB (by omega), B.trans (PB.below (by omega) B.size)⟩
      case measure => simp [intOf]; omega
    · have hkn : k = n := by omega
      subst hkn
      have hli : ¬ (k : Int) < (k : Int) := by omega
      obtain ⟨r0, r1, r2, r3, r4⟩ := id R
      go_wp2_with fail
      have PB := ((But.refl (w.heap.size + 1) wr).setCell 0 (.int .i64 nx)).setCell 1 (.slice (some ⟨w.heap.size + 1 + 1, 0, none⟩) k k)
      exact bodyPost_ret (v := .agg #[.int .i64 nx, .slice (some ⟨w.heap.size + 1 + 1, 0, none⟩) k k]) (by simp (maxDischargeDepth := 6) [results, Try.results25, go_sem, *]) rfl ⟨w.heap.size + 1 + 1, rfl, by omega, NW.but PB (by omega), B.trans (PB.below (by omega) B.size)⟩
set_option maxHeartbeats 1000000 in
theorem mailHas_any (nx i : Int) (bm br n : Nat) (w : World) (hn : n ≤ 40) :
    Calls Try.prog 24 #[.agg #[.int .i64 nx, .map (some bm), .slice (some ⟨br, 0, none⟩) n n], .int .i64 i] w fun e w' => e = .returned (.bool (decide (0 ≤ i ∧ i < n))) ∧ Below w.heap.size w w' := by
  by_cases h1 : 0 ≤ i
  · by_cases h2 : i < (n : Int)
    · have d1 : decide (0 ≤ i) = true := decide_eq_true h1
      have d2 : decide (i < (n : Int)) = true := decide_eq_true h2
      have d3 : decide (0 ≤ i ∧ i < (n : Int)) = true := decide_eq_true ⟨h1, h2⟩
      rw [d3]
      go_enter Try.func24, Try.ntmps24
      go_wp2
      go_ret
      exact ⟨rfl, Below.nw _ _⟩
    · have d1 : decide (0 ≤ i) = true := decide_eq_true h1
      have d2 : decide (i < (n : Int)) = false := decide_eq_false h2
      have d3 : decide (0 ≤ i ∧ i < (n : Int)) = false := decide_eq_false (fun h => h2 h.2)
      rw [d3]
      go_enter Try.func24, Try.ntmps24
      go_wp2
      go_ret
      exact ⟨rfl, Below.nw _ _⟩
  · have d1 : decide (0 ≤ i) = false := decide_eq_false h1
    have d3 : decide (0 ≤ i ∧ i < (n : Int)) = false := decide_eq_false (fun h => h1 h.1)
    rw [d3]
    go_enter Try.func24, Try.ntmps24
    go_wp2
    go_ret
    exact ⟨rfl, Below.nw _ _⟩
end Go.Proofs.Ytgfhcilhibbooaa
namespace Go.Proofs.Ytgfhcilhibbooaa
open Go.RowKit
set_option linter.unusedVariables false
def F5 (w : World) (j : Nat) (x0 x1 x2 : Int) (x3 : ByteArray) (x4 : Int) : Prop := j < w.heap.size ∧ w.cell? ⟨j, 0, none⟩ = some (.int .i64 x0) ∧ w.cell? ⟨j, 1, none⟩ = some (.int .i64 x1) ∧ w.cell? ⟨j, 2, none⟩ = some (.int .i64 x2) ∧ w.cell? ⟨j, 3, none⟩ = some (.string x3) ∧ w.cell? ⟨j, 4, none⟩ = some (.int .i64 x4) ∧ w.frozen? ⟨j, 0, none⟩ = false ∧ w.frozen? ⟨j, 1, none⟩ = false ∧ w.frozen? ⟨j, 2, none⟩ = false ∧ w.frozen? ⟨j, 3, none⟩ = false ∧ w.frozen? ⟨j, 4, none⟩ = false
theorem F5.belowB {w w' : World} {B j : Nat} {x0 x1 x2 : Int} {x3 : ByteArray} {x4 : Int} (h : F5 w j x0 x1 x2 x3 x4) (hb : Below B w w') (hj : j < B) : F5 w' j x0 x1 x2 x3 x4 := by
  obtain ⟨h0, c0, c1, c2, c3, c4, f0, f1, f2, f3, f4⟩ := h
  exact ⟨Nat.lt_of_lt_of_le h0 hb.size, by rw [hb.cell (p := ⟨j, 0, none⟩) hj]; exact c0, by rw [hb.cell (p := ⟨j, 1, none⟩) hj]; exact c1, by rw [hb.cell (p := ⟨j, 2, none⟩) hj]; exact c2, by rw [hb.cell (p := ⟨j, 3, none⟩) hj]; exact c3, by rw [hb.cell (p := ⟨j, 4, none⟩) hj]; exact c4, by rw [hb.frozen (p := ⟨j, 0, none⟩) hj]; exact f0, by rw [hb.frozen (p := ⟨j, 1, none⟩) hj]; exact f1, by rw [hb.frozen (p := ⟨j, 2, none⟩) hj]; exact f2, by rw [hb.frozen (p := ⟨j, 3, none⟩) hj]; exact f3, by rw [hb.frozen (p := ⟨j, 4, none⟩) hj]; exact f4⟩
theorem F5.below {w w' : World} {j : Nat} {x0 x1 x2 : Int} {x3 : ByteArray} {x4 : Int} (h : F5 w j x0 x1 x2 x3 x4) (hb : Below w.heap.size w w') : F5 w' j x0 x1 x2 x3 x4 := h.belowB hb h.1
theorem F5.but {w w' : World} {j q : Nat} {x0 x1 x2 : Int} {x3 : ByteArray} {x4 : Int} (h : F5 w j x0 x1 x2 x3 x4) (hb : But q w w') (hq : j ≠ q) : F5 w' j x0 x1 x2 x3 x4 := by
  obtain ⟨h0, c0, c1, c2, c3, c4, f0, f1, f2, f3, f4⟩ := h
  exact ⟨Nat.lt_of_lt_of_le h0 hb.2.2.2.1, by rw [hb.cell h0 hq]; exact c0, by rw [hb.cell h0 hq]; exact c1, by rw [hb.cell h0 hq]; exact c2, by rw [hb.cell h0 hq]; exact c3, by rw [hb.cell h0 hq]; exact c4, by rw [hb.frozen h0 hq]; exact f0, by rw [hb.frozen h0 hq]; exact f1, by rw [hb.frozen h0 hq]; exact f2, by rw [hb.frozen h0 hq]; exact f3, by rw [hb.frozen h0 hq]; exact f4⟩
theorem F5.drew {w : World} {j : Nat} {x0 x1 x2 : Int} {x3 : ByteArray} {x4 : Int} (h : F5 w j x0 x1 x2 x3 x4) : F5 w.drew j x0 x1 x2 x3 x4 := h
theorem F5.new (w : World) (x0 x1 x2 : Int) (x3 : ByteArray) (x4 : Int) (T : TypeId) : F5 (w.alloc (.cells #[.int .i64 x0, .int .i64 x1, .int .i64 x2, .string x3, .int .i64 x4] T)) w.heap.size x0 x1 x2 x3 x4 := ⟨by simp, by simp, by simp, by simp, by simp, by simp, by simp, by simp, by simp, by simp, by simp⟩
set_option maxRecDepth 100000 in
set_option maxHeartbeats 4000000 in
theorem mailAt_any (nx : Int) (bm br n q i : Nat) (F : Int → Option FT) (x0 x1 x2 : Int) (x3 : ByteArray) (x4 : Int) (w : World) (hn : n ≤ 40) (hi : i < n) (hM : MapI w bm q F) (hbr : br < w.heap.size) (hR : w.cell? ⟨br, i, none⟩ = some (.int .i64 x0)) (hw : (Lit.int .i64 x0).wf = true) (hF : F x0 = some (x0, x1, x2, x3, x4)) :
    Calls Try.prog 28 #[.agg #[.int .i64 nx, .map (some bm), .slice (some ⟨br, 0, none⟩) n n], .int .i64 i] w fun e w' => e = .returned (.agg #[.int .i64 x0, .int .i64 x1, .int .i64 x2, .string x3, .int .i64 x4]) ∧ Below w.heap.size w w' := by
  have A1 := Below.nw w (.cells #[.int .i64 nx, .map (some bm), .slice (some ⟨br, 0, none⟩) n n] 53)
  have A2 := A1.alloc A1.size (.cells #[.int .i64 0, .int .i64 0, .int .i64 0, .string ⟨#[]⟩, .int .i64 0] 30)
  have X := (MB.new w (.int .i64 nx) (.map (some bm)) (.slice (some ⟨br, 0, none⟩) n n) 53).below (Below.nw _ (.cells #[.int .i64 0, .int .i64 0, .int .i64 0, .string ⟨#[]⟩, .int .i64 0] 30))
  have R := F5.new (w.alloc (.cells #[.int .i64 nx, .map (some bm), .slice (some ⟨br, 0, none⟩) n n] 53)) 0 0 0 ⟨#[]⟩ 0 30
  have MP := hM.below A2
  have ci := (A2.cell (p := ⟨br, i, none⟩) hbr).trans hR
  simp only [World.size_alloc] at R
  have hli : (i : Int) < (n : Int) := by omega
  clear hM hR A1
  obtain ⟨k0, k1, k2, k3, _, _, _⟩ := id X
  obtain ⟨r0, r1, r2, r3, r4, r5, r6, r7, r8, r9, r10⟩ := id R
  go_enter Try.func28, Try.ntmps28
  go_wp2_with fail
  generalize (w.alloc (.cells #[.int .i64 nx, .map (some bm), .slice (some ⟨br, 0, none⟩) n n] 53)).alloc (.cells #[.int .i64 0, .int .i64 0, .int .i64 0, .string ⟨#[]⟩, .int .i64 0] 30) = v at *
  have hlk : (Instr.lookup 50 (.map (some bm)) (.int .i64 x0) false).run Try.prog v.drew = .ok (.agg #[.int .i64 x0, .int .i64 x1, .int .i64 x2, .string x3, .int .i64 x4]) v.drew := by
    have h := (MP.drew).look hw
    rw [hF] at h
    exact h
  clear MP hF
  go_region
  all_goals go_wp2_with fail
  all_goals exact bodyPost_ret (v := .agg #[.int .i64 x0, .int .i64 x1, .int .i64 x2, .string x3, .int .i64 x4]) (by simp (maxDischargeDepth := 6) [results, Try.results28, go_sem, *]) rfl ⟨rfl, by repeat (first | exact A2 | refine Below.drew ?_ | refine Below.setCell ?_ (by first | (simp; done) | (simp; omega) | omega) _)⟩
end Go.Proofs.Ytgfhcilhibbooaa
namespace Go.Proofs.Ytgfhcilhibbooaa
open Go.RowKit
set_option linter.unusedVariables false
def But2 (p q : Nat) (w w' : World) : Prop := w'.os = w.os ∧ w'.tape = w.tape ∧ w'.output = w.output ∧ w.heap.size ≤ w'.heap.size ∧ ∀ k, k < w.heap.size → k ≠ p → k ≠ q → w'.heap[k]? = w.heap[k]?
theorem But2.refl (p q : Nat) (w : World) : But2 p q w w := ⟨rfl, rfl, rfl, Nat.le_refl _, fun _ _ _ _ => rfl⟩
theorem But2.trans {p q : Nat} {a b c : World} (h : But2 p q a b) (k : But2 p q b c) : But2 p q a c :=
  ⟨k.1.trans h.1, k.2.1.trans h.2.1, k.2.2.1.trans h.2.2.1, Nat.le_trans h.2.2.2.1 k.2.2.2.1, fun i hi h1 h2 => (k.2.2.2.2 i (Nat.lt_of_lt_of_le hi h.2.2.2.1) h1 h2).trans (h.2.2.2.2 i hi h1 h2)⟩
theorem But2.ofBelow {p q : Nat} {w w' : World} (h : Below w.heap.size w w') : But2 p q w w' := ⟨h.os, h.tape, h.output, h.size, fun k hk _ _ => h.block k hk⟩
theorem But2.left {p q : Nat} {w w' : World} (h : But p w w') : But2 p q w w' := ⟨h.1, h.2.1, h.2.2.1, h.2.2.2.1, fun k hk h1 _ => h.2.2.2.2 k hk h1⟩
theorem But2.right {p q : Nat} {w w' : World} (h : But q w w') : But2 p q w w' := ⟨h.1, h.2.1, h.2.2.1, h.2.2.2.1, fun k hk _ h1 => h.2.2.2.2 k hk h1⟩
theorem But2.below {p q B : Nat} {w w' : World} (h : But2 p q w w') (hp : B ≤ p) (hq : B ≤ q) (hs : B ≤ w.heap.size) : Below B w w' := ⟨h.1, h.2.1, h.2.2.1, h.2.2.2.1, fun k hk => h.2.2.2.2 k (by omega) (by omega) (by omega)⟩
theorem But2.new {p q g : Nat} {w w1 w' : World} (h : But2 p q w w1) (hb : Below g w1 w') (hg : w.heap.size ≤ g) : But2 p q w w' :=
  ⟨hb.os.trans h.1, hb.tape.trans h.2.1, hb.output.trans h.2.2.1, Nat.le_trans h.2.2.2.1 hb.size, fun k hk h1 h2 => (hb.block k (by omega)).trans (h.2.2.2.2 k hk h1 h2)⟩
theorem But2.cell {p q k o : Nat} {w w' : World} (h : But2 p q w w') (hk : k < w.heap.size) (h1 : k ≠ p) (h2 : k ≠ q) : w'.cell? ⟨k, o, none⟩ = w.cell? ⟨k, o, none⟩ := World.cell?_of_block (w := w) (h.2.2.2.2 k hk h1 h2)
theorem But2.frozen {p q k o : Nat} {w w' : World} (h : But2 p q w w') (hk : k < w.heap.size) (h1 : k ≠ p) (h2 : k ≠ q) : w'.frozen? ⟨k, o, none⟩ = w.frozen? ⟨k, o, none⟩ := World.frozen?_of_block (w := w) (h.2.2.2.2 k hk h1 h2)
theorem MB.belowB {w w' : World} {B j : Nat} {u0 u1 u2 : Value} (h : MB w j u0 u1 u2) (hb : Below B w w') (hj : j < B) : MB w' j u0 u1 u2 := by
  obtain ⟨h0, c0, c1, c2, f0, f1, f2⟩ := h
  exact ⟨Nat.lt_of_lt_of_le h0 hb.size, by rw [hb.cell (p := ⟨j, 0, none⟩) hj]; exact c0, by rw [hb.cell (p := ⟨j, 1, none⟩) hj]; exact c1, by rw [hb.cell (p := ⟨j, 2, none⟩) hj]; exact c2, by rw [hb.frozen (p := ⟨j, 0, none⟩) hj]; exact f0, by rw [hb.frozen (p := ⟨j, 1, none⟩) hj]; exact f1, by rw [hb.frozen (p := ⟨j, 2, none⟩) hj]; exact f2⟩
theorem MB.set2 {w : World} {j : Nat} {u0 u1 u2 : Value} (h : MB w j u0 u1 u2) (a2 : Value) : MB (w.setCell ⟨j, 2, none⟩ a2) j u0 u1 a2 := by
  obtain ⟨h0, c0, c1, c2, f0, f1, f2⟩ := h
  exact ⟨by simpa using h0, by rw [World.cell?_setCell_other _ _ _ _ (by simp)]; exact c0, by rw [World.cell?_setCell_other _ _ _ _ (by simp)]; exact c1, World.cell?_setCell_same _ _ _ c2, by simpa using f0, by simpa using f1, by simpa using f2⟩
def cutG (G : Nat → FT) (i k : Nat) : FT := if k < i then G k else G (k + 1)
theorem infoSzI : (Try.prog.info? 3).map (·.size) = some 1 := by kernel_rfl
def seg (G : Nat → FT) (i m : Nat) : List Value := (List.range m).map fun k => .int .i64 (G (i + k)).1
theorem seg_len (G : Nat → FT) (i m : Nat) : (seg G i m).length = m := by simp [seg]
theorem seg_get {G : Nat → FT} {i m k : Nat} {v : Value} (h : (seg G i m)[k]? = some v) : k < m ∧ v = .int .i64 (G (i + k)).1 := by
  have hk : k < (seg G i m).length := (List.getElem?_eq_some_iff.1 h).1
  rw [seg_len] at hk
  refine ⟨hk, ?_⟩
  simp [seg, hk] at h
  exact h.symm
theorem seg_one (G : Nat → FT) (i m : Nat) : ∀ v ∈ seg G i m, v.oneCell' = true := by
  intro v hv; simp [seg] at hv; obtain ⟨k, _, rfl⟩ := hv; rfl
theorem rowI_heap (w : World) (n : Nat) : (w.alloc (rowObjI n)).heap[w.heap.size]? = some (.cells (List.replicate n (Value.int .i64 0)).toArray 3 (0, 0)) := by
  have e : (madeCells #[Value.int .i64 0] n) = (List.replicate n (Value.int .i64 0)).toArray := by
    rw [← toList_madeCells_one]
  rw [← e]; exact (Go.MapKept.heap_alloc w _).1
theorem take_row {w : World} {g n i : Nat} {G : Nat → FT} (hi : i < n) (h : w.heap[g]? = some (.cells (splice (splice (List.replicate (n - 1) (Value.int .i64 0)) 0 (seg G 0 i)) i (seg G (i + 1) (n - 1 - i))).toArray 3 (0, 0))) : RowF w g 3 (n - 1) (n - 1) (idF (cutG G i)) := by
  have l1 := length_splice (List.replicate (n - 1) (Value.int .i64 0)) 0 (seg G 0 i) (by simp [seg_len]; omega)
  have l2 := length_splice (splice (List.replicate (n - 1) (Value.int .i64 0)) 0 (seg G 0 i)) i (seg G (i + 1) (n - 1 - i)) (by rw [l1]; simp [seg_len]; omega)
  have e : splice (splice (List.replicate (n - 1) (Value.int .i64 0)) 0 (seg G 0 i)) i (seg G (i + 1) (n - 1 - i)) = seg G 0 i ++ seg G (i + 1) (n - 1 - i) := by
    unfold splice
    have a1 : (List.take 0 (List.replicate (n - 1) (Value.int .i64 0)) ++ (seg G 0 i ++ List.drop (0 + (seg G 0 i).length) (List.replicate (n - 1) (Value.int .i64 0)))) = seg G 0 i ++ List.replicate (n - 1 - i) (Value.int .i64 0) := by simp [seg_len]
    rw [a1]
    rw [List.take_append_of_le_length (by rw [seg_len]; exact Nat.le_refl _), List.take_of_length_le (by rw [seg_len]; exact Nat.le_refl _)]
    rw [List.drop_eq_nil_of_le (by simp [seg_len]), List.append_nil]
  rw [e] at h
  refine ⟨fun k => idF (cutG G i) k, ⟨_, h, by simp [seg_len]; omega, fun k hk => ?_⟩, fun _ _ => rfl⟩
  rw [List.getElem?_toArray]
  by_cases hki : k < i
  · rw [List.getElem?_append_left (by rw [seg_len]; exact hki)]
    simp [seg, hki, idF, cutG]
  · rw [List.getElem?_append_right (by rw [seg_len]; omega), seg_len]
    have h2 : k - i < n - 1 - i := by omega
    have h3 : i + 1 + (k - i) = k + 1 := by omega
    simp [seg, h2, idF, cutG, hki, h3]
set_option maxRecDepth 100000 in
set_option maxHeartbeats 4000000 in
theorem mailTake_any (nx : Int) (j bm br n q i : Nat) (F : Int → Option FT) (G : Nat → FT) (x0 x1 x2 : Int) (x3 : ByteArray) (x4 : Int) (w : World) (hn : n ≤ 40) (hi : i < n) (X : MB w j (.int .i64 nx) (.map (some bm)) (.slice (some ⟨br, 0, none⟩) n n)) (MP : MapI w bm q F) (RW : RowF w br 3 n n (idF G)) (h1 : j ≠ bm) (h2 : j ≠ br) (h3 : bm ≠ br) (hw : (Lit.int .i64 x0).wf = true) (hG : G i = (x0, x1, x2, x3, x4)) (hF : F x0 = some (x0, x1, x2, x3, x4)) :
    Calls Try.prog 26 #[.pointer (some ⟨j, 0, none⟩), .int .i64 i] w fun e w' => ∃ b, e = .returned (.agg #[.int .i64 x0, .int .i64 x1, .int .i64 x2, .string x3, .int .i64 x4]) ∧ w.heap.size ≤ b ∧ MB w' j (.int .i64 nx) (.map (some bm)) (.slice (some ⟨b, 0, none⟩) (n - 1) (n - 1)) ∧ MapI w' bm q (fun y => if y = x0 then none else F y) ∧ RowF w' b 3 (n - 1) (n - 1) (idF (cutG G i)) ∧ But2 j bm w w' := by
  have A1 := Below.nw w (.cells #[.int .i64 0, .int .i64 0, .int .i64 0, .string ⟨#[]⟩, .int .i64 0] 30)
  have R := F5.new w 0 0 0 ⟨#[]⟩ 0 30
  have hj := X.1
  have hm := MP.lt
  have hr := RW.lt
  have U : But2 j bm w (w.alloc (.cells #[.int .i64 0, .int .i64 0, .int .i64 0, .string ⟨#[]⟩, .int .i64 0] 30)) := But2.ofBelow A1
  have ci : w.cell? ⟨br, i, none⟩ = some (.int .i64 x0) := by have h := (RW.cs (Nat.le_refl _)).2 i hi; rw [Nat.zero_add, idF, hG] at h; exact h
  replace ci := (A1.cell (p := ⟨br, i, none⟩) hr).trans ci
  replace X := X.below A1
  replace MP := MP.below A1
  replace RW := RowF.below' A1 RW
  have HG : Hid (G i = (x0, x1, x2, x3, x4)) := hG
  have HF : Hid (F x0 = some (x0, x1, x2, x3, x4)) := hF
  have hmk0 := mk_rowI (n - 1) (by omega)
  have hn1 : ((n - 1 : Nat) : Int) = (n : Int) - 1 := by omega
  rw [hn1] at hmk0
  have hli : (i : Int) < (n : Int) := by omega
  clear hG hF hn1
  obtain ⟨k0, k1, k2, k3, k4, k5, k6⟩ := id X
  go_enter Try.func26, Try.ntmps26
  go_wp2_with fail
  refine (mailAt_any nx bm br n q i F x0 x1 x2 x3 x4 _ hn hi MP (by simp; omega) ci hw HF.out).mono ?_
  rintro e v ⟨rfl, hb⟩
  clear k0 k1 k2 k3 k4 k5 k6 ci A1
  have A2 := Below.nw v (.cells #[.int .i64 x0, .int .i64 x1, .int .i64 x2, .string x3, .int .i64 x4] 30)
  have P := F5.new v x0 x1 x2 x3 x4 30
  replace X := (X.below hb).below A2
  replace MP := (MP.below hb).below A2
  replace RW := RowF.below' A2 (RowF.below' hb RW)
  replace R := (R.below hb).below A2
  replace U := (U.trans (But2.ofBelow hb)).trans (But2.ofBelow A2)
  have hRf : w.heap.size < v.heap.size := by have := hb.size; simp at this; omega
  clear hb A2
  go_wp2_with fail
  generalize v.heap.size = jf at *
  generalize v.alloc (.cells #[.int .i64 x0, .int .i64 x1, .int .i64 x2, .string x3, .int .i64 x4] 30) = v1 at *
  obtain ⟨w2, hdel, MP2, hg⟩ := (MP.drew).del hw 0
  have Bm := But.ofGrown hg
  have X2 := (X.drew).but Bm h1
  have RW2 := RowF.but (show RowF v1.drew br 3 n n (idF G) from RW) Bm (fun e => h3 e.symm)
  have R2 := (R.drew).but Bm (by omega)
  have P2 := (P.drew).but Bm (by omega)
  have U2 : But2 j bm w w2 := (But2.trans (b := v1.drew) U (But2.right Bm))
  obtain ⟨k0, k1, k2, k3, k4, k5, k6⟩ := id X
  obtain ⟨p0, p1, p2, p3, p4, p5, p6, p7, p8, p9, p10⟩ := id P
  go_region
  clear k0 k1 k2 k3 k4 k5 k6 p0 p1 p2 p3 p4 p5 p6 p7 p8 p9 p10 hdel hg Bm MP X RW R P U HF
  obtain ⟨k0, k1, k2, k3, k4, k5, k6⟩ := id X2
  go_upto_region 4 with fail
  have hZ := rowI_heap w2 (n - 1)
  have A3 := Below.nw w2 (rowObjI (n - 1))
  have s2 : w.heap.size ≤ w2.heap.size := U2.2.2.2.1
  have X3 := X2.below A3
  have MP3 := MP2.below A3
  have RW3 := RowF.below' A3 RW2
  have R3 := R2.below A3
  have P3 := P2.below A3
  have U3 := U2.trans (But2.ofBelow A3)
  have lj : j < w2.heap.size := X2.1
  have lm : bm < w2.heap.size := MP2.lt
  have lr : br < w2.heap.size := RW2.lt
  have lf : jf < w2.heap.size := P2.1
  have lR : w.heap.size < w2.heap.size := R2.1
  clear k0 k1 k2 k3 k4 k5 k6 hmk0 X2 MP2 RW2 R2 P2 U2 A3
  have hs3 : (w2.alloc (rowObjI (n - 1))).heap.size = w2.heap.size + 1 := by simp
  generalize w2.heap.size = g at *
  generalize w2.alloc (rowObjI (n - 1)) = w3 at *
  obtain ⟨k0, k1, k2, k3, k4, k5, k6⟩ := id X3
  have c1 : ∀ k v, (seg G 0 i)[k]? = some v → w3.cell? ((⟨br, 0, none⟩ : Addr).add k) = some v := by
    intro k v hv
    obtain ⟨hk, rfl⟩ := seg_get hv
    have h := (RW3.cs (Nat.le_refl _)).2 k (by omega)
    rw [Nat.zero_add]
    unfold Addr.add
    split
    · next e => subst e; exact h
    · exact h
  have hli2 : (i : Int) ≤ (n : Int) := by omega
  have HZ : Hid (w3.heap[g]? = some (.cells (List.replicate (n - 1) (Value.int .i64 0)).toArray 3 (0, 0))) := hZ
  have HC : Hid (∀ k v, (seg G 0 i)[k]? = some v → w3.cell? ((⟨br, 0, none⟩ : Addr).add k) = some v) := c1
  clear hZ c1
  obtain ⟨w4, hcp, HG4, B4⟩ : ∃ w4, (Builtin.copy_ #[51, 51] 3 #[.slice (some ⟨g, 0, none⟩) (n - 1) (n - 1), .slice (some ⟨br, 0, none⟩) i n]).run Try.prog w3 = .ok (goInt i) w4 ∧ Hid (w4.heap[g]? = some (.cells (splice (List.replicate (n - 1) (Value.int .i64 0)) 0 (seg G 0 i)).toArray 3 (0, 0))) ∧ Below g w3 w4 := by
    have h := run_copy_row (P := Try.prog) w3 51 51 3 3 g 0 (n - 1) (n - 1) ⟨br, 0, none⟩ i n (List.replicate (n - 1) (Value.int .i64 0)).toArray 3 (seg G 0 i) Try.underlying51 infoSzI HZ.out (by rw [seg_len]; exact (Nat.min_eq_left (by omega)).symm) HC.out (by simp [seg_len]; omega) (seg_one G 0 i)
    rw [seg_len] at h
    refine ⟨_, h, ?_, below_setRow (Below.refl _ _) (Nat.le_refl _) _⟩
    show _ = _
    rw [setRow_heap w3 g _ _ 3 _ HZ.out]
    simp [splice, seg_len]
  have Bg : But g w3 w4 := ⟨B4.os, B4.tape, B4.output, B4.size, fun k hk hkg => B4.block k (by omega)⟩
  have X4 := X3.but Bg (by omega)
  have MP4 := MP3.but Bg (by omega)
  have RW4 := RW3.but Bg (by omega)
  have R4 := R3.but Bg (by omega)
  have P4 := P3.but Bg (by omega)
  have U4 := U3.new B4 (by omega)
  have lg : g < w4.heap.size := by have := B4.size; omega
  go_upto_region 5 with fail
  clear k0 k1 k2 k3 k4 k5 k6 hcp HC HZ X3 MP3 RW3 R3 P3 U3 B4 Bg hs3 hli2
  obtain ⟨k0, k1, k2, k3, k4, k5, k6⟩ := id X4
  by_cases hlast : i + 1 = n
  · have e1 : (i : Int) = ((n - 1 : Nat) : Int) := by omega
    have e2 : (i : Int) + 1 = (n : Int) := by omega
    have e3 : ((n - 1 : Nat) : Int) = (n : Int) - 1 := by omega
    have hcp := run_copy_none (P := Try.prog) w4.drew 51 51 3 3 (some ⟨g, 0, none⟩) (some ⟨br, 0, none⟩) 0 0 0 0 Try.underlying51 infoSzI rfl
    have HG5 : Hid (w4.drew.heap[g]? = some (.cells (splice (splice (List.replicate (n - 1) (Value.int .i64 0)) 0 (seg G 0 i)) i (seg G (i + 1) (n - 1 - i))).toArray 3 (0, 0))) := by
      have h : w4.drew.heap[g]? = w4.heap[g]? := rfl
      show _ = _
      rw [h, HG4.out, show n - 1 - i = 0 by omega]
      simp [splice, seg]
    have X5 := X4.drew
    have MP5 := MP4.drew
    have R5 := R4.drew
    have P5 := P4.drew
    have U5 : But2 j bm w w4.drew := U4
    have lg5 : g < w4.drew.heap.size := lg
    go_region
    generalize w4.drew = w5 at *
    clear k0 k1 k2 k3 k4 k5 k6 hcp X4 MP4 RW4 R4 P4 U4
    obtain ⟨k0, k1, k2, k3, k4, k5, k6⟩ := id X5
    obtain ⟨r0, r1, r2, r3, r4, r5, r6, r7, r8, r9, r10⟩ := id R5
    obtain ⟨p0, p1, p2, p3, p4, p5, p6, p7, p8, p9, p10⟩ := id P5
    have hjr : j ≠ w.heap.size := by omega
    have hrj : w.heap.size ≠ j := by omega
    have hfj : jf ≠ j := by omega
    have hfr : jf ≠ w.heap.size := by omega
    go_wp2_with fail
    have U6 := U5.trans (But2.left (q := bm) (But.one w5 j 2 (.slice (some ⟨g, 0, none⟩) (n - 1) (n - 1))))
    have Bj := But.one w5 j 2 (.slice (some ⟨g, 0, none⟩) (n - 1) (n - 1))
    have PB := put5_but (w5.setCell ⟨j, 2, none⟩ (.slice (some ⟨g, 0, none⟩) (n - 1) (n - 1))) w.heap.size 0 (.int .i64 x0) (.int .i64 x1) (.int .i64 x2) (.string x3) (.int .i64 x4)
    exact bodyPost_ret (v := .agg #[.int .i64 x0, .int .i64 x1, .int .i64 x2, .string x3, .int .i64 x4]) (by simp (maxDischargeDepth := 6) [results, Try.results26, go_sem, *]) rfl ⟨g, rfl, by omega, (MB.set2 X5 _).but PB hjr, (MP5.but Bj (fun e => h1 e.symm)).but PB (by omega), ((take_row hi HG5.out).but Bj (by omega)).but PB (by omega), U6.new (PB.below (B := w.heap.size) (Nat.le_refl _) U6.2.2.2.1) (Nat.le_refl _)⟩
  · have e1 : (i : Int) < ((n - 1 : Nat) : Int) := by omega
    have e2 : (i : Int) + 1 < (n : Int) := by omega
    have RD : RowF w4.drew br 3 n n (idF G) := RW4
    have c2 : ∀ k v, (seg G (i + 1) (n - 1 - i))[k]? = some v → w4.drew.cell? ((⟨br, i + 1, none⟩ : Addr).add k) = some v := by
      intro k v hv
      obtain ⟨hk, rfl⟩ := seg_get hv
      have h := (RD.cs (Nat.le_refl _)).2 (i + 1 + k) (by omega)
      rw [Nat.zero_add] at h
      unfold Addr.add
      split
      · next e => subst e; exact h
      · exact h
    have hl2 : (splice (List.replicate (n - 1) (Value.int .i64 0)) 0 (seg G 0 i)).length = n - 1 := by
      rw [length_splice _ _ _ (by simp [seg_len]; omega)]; simp
    obtain ⟨w5, hcp, HG5, B5⟩ : ∃ w5, (Builtin.copy_ #[51, 51] 3 #[.slice (some ⟨g, i, none⟩) (n - 1 - i) (n - 1 - i), .slice (some ⟨br, i + 1, none⟩) (n - (i + 1)) (n - (i + 1))]).run Try.prog w4.drew = .ok (goInt ((n - 1 - i : Nat) : Int)) w5 ∧ Hid (w5.heap[g]? = some (.cells (splice (splice (List.replicate (n - 1) (Value.int .i64 0)) 0 (seg G 0 i)) i (seg G (i + 1) (n - 1 - i))).toArray 3 (0, 0))) ∧ But g w4 w5 := by
      have hg4 : w4.drew.heap[g]? = some (.cells (splice (List.replicate (n - 1) (Value.int .i64 0)) 0 (seg G 0 i)).toArray 3 (0, 0)) := HG4.out
      have h := run_copy_row (P := Try.prog) w4.drew 51 51 3 3 g i (n - 1 - i) (n - 1 - i) ⟨br, i + 1, none⟩ (n - (i + 1)) (n - (i + 1)) _ 3 (seg G (i + 1) (n - 1 - i)) Try.underlying51 infoSzI hg4 (by rw [seg_len]; exact (Nat.min_eq_right (by omega)).symm) c2 (by simp [hl2, seg_len]; omega) (seg_one G (i + 1) (n - 1 - i))
      have hl : (seg G (i + 1) (n - 1 - i)).length = n - 1 - i := seg_len _ _ _
      rw [hl] at h
      refine ⟨_, h, ?_, rfl, rfl, rfl, by simp [World.setRow], fun k hk hkg => ?_⟩
      · show _ = _
        rw [setRow_heap w4.drew g _ _ 3 _ hg4]
        simp [splice, hl]
      · exact setRow_other w4.drew g k _ hkg
    have X5 := X4.but B5 (by omega)
    have MP5 := MP4.but B5 (by omega)
    have R5 := R4.but B5 (by omega)
    have P5 := P4.but B5 (by omega)
    have U5 : But2 j bm w w5 := ⟨B5.1.trans U4.1, B5.2.1.trans U4.2.1, B5.2.2.1.trans U4.2.2.1, Nat.le_trans U4.2.2.2.1 B5.2.2.2.1, fun k hk a b => (B5.2.2.2.2 k (Nat.lt_of_lt_of_le hk U4.2.2.2.1) (by omega)).trans (U4.2.2.2.2 k hk a b)⟩
    clear RD c2 hl2
    go_region
    clear k0 k1 k2 k3 k4 k5 k6 hcp X4 MP4 RW4 R4 P4 U4
    obtain ⟨k0, k1, k2, k3, k4, k5, k6⟩ := id X5
    obtain ⟨r0, r1, r2, r3, r4, r5, r6, r7, r8, r9, r10⟩ := id R5
    obtain ⟨p0, p1, p2, p3, p4, p5, p6, p7, p8, p9, p10⟩ := id P5
    have hjr : j ≠ w.heap.size := by omega
    have hrj : w.heap.size ≠ j := by omega
    have hfj : jf ≠ j := by omega
    have hfr : jf ≠ w.heap.size := by omega
    go_wp2_with fail
    have U6 := U5.trans (But2.left (q := bm) (But.one w5 j 2 (.slice (some ⟨g, 0, none⟩) (n - 1) (n - 1))))
    have Bj := But.one w5 j 2 (.slice (some ⟨g, 0, none⟩) (n - 1) (n - 1))
    have PB := put5_but (w5.setCell ⟨j, 2, none⟩ (.slice (some ⟨g, 0, none⟩) (n - 1) (n - 1))) w.heap.size 0 (.int .i64 x0) (.int .i64 x1) (.int .i64 x2) (.string x3) (.int .i64 x4)
    exact bodyPost_ret (v := .agg #[.int .i64 x0, .int .i64 x1, .int .i64 x2, .string x3, .int .i64 x4]) (by simp (maxDischargeDepth := 6) [results, Try.results26, go_sem, *]) rfl ⟨g, rfl, by omega, (MB.set2 X5 _).but PB hjr, (MP5.but Bj (fun e => h1 e.symm)).but PB (by omega), ((take_row hi HG5.out).but Bj (by omega)).but PB (by omega), U6.new (PB.below (B := w.heap.size) (Nat.le_refl _) U6.2.2.2.1) (Nat.le_refl _)⟩

end Go.Proofs.Ytgfhcilhibbooaa
namespace Go.Proofs.Ytgfhcilhibbooaa
open Go.RowKit
set_option linter.unusedVariables false
def frow (G : Nat → FT) (m : Nat) : List Value := (List.range (m * 5)).map (MFFlight G)
theorem frow_len (G : Nat → FT) (m : Nat) : (frow G m).length = m * 5 := by simp [frow]
theorem frow_add {G : Nat → FT} {k : Nat} {x0 x1 x2 : Int} {x3 : ByteArray} {x4 : Int} (h : G k = (x0, x1, x2, x3, x4)) : frow G k ++ [.int .i64 x0, .int .i64 x1, .int .i64 x2, .string x3, .int .i64 x4] = frow G (k + 1) := by
  obtain ⟨q0, q1, q2, q3, q4⟩ := MFFlight_vals h
  unfold frow
  rw [show (k + 1) * 5 = k * 5 + 1 + 1 + 1 + 1 + 1 by omega, List.range_succ, List.range_succ, List.range_succ, List.range_succ, List.range_succ]
  simp only [List.map_append, List.map_cons, List.map_nil, List.append_assoc, List.cons_append, List.nil_append]
  rw [q0, q1, q2, q3, q4]
theorem frow_one (G : Nat → FT) (m : Nat) : ∀ v ∈ frow G m, v.oneCell' = true := by
  intro v hv
  simp only [frow, List.mem_map] at hv
  obtain ⟨j, _, rfl⟩ := hv
  unfold MFFlight MCFlight
  split <;> rfl
theorem frow_get {G : Nat → FT} {m k : Nat} {v : Value} (h : (frow G m)[k]? = some v) : k < m * 5 ∧ v = MFFlight G k := by
  have hk : k < (frow G m).length := (List.getElem?_eq_some_iff.1 h).1
  rw [frow_len] at hk
  refine ⟨hk, ?_⟩
  simp [frow, hk] at h
  exact h.symm
theorem five_at (w : World) (x0 x1 x2 : Int) (x3 : ByteArray) (x4 : Int) (T : TypeId) (j : Nat) (u : Value) (h : [Value.int .i64 x0, .int .i64 x1, .int .i64 x2, .string x3, .int .i64 x4][j]? = some u) : (w.alloc (.cells #[.int .i64 x0, .int .i64 x1, .int .i64 x2, .string x3, .int .i64 x4] T)).cell? ((⟨w.heap.size, 0, none⟩ : Addr).add j) = some u := by
  match j, h with
  | 0, h => simp at h; subst h; simp [Addr.add]
  | 1, h => simp at h; subst h; simp [Addr.add]
  | 2, h => simp at h; subst h; simp [Addr.add]
  | 3, h => simp at h; subst h; simp [Addr.add]
  | 4, h => simp at h; subst h; simp [Addr.add]
theorem five_one (x0 x1 x2 : Int) (x3 : ByteArray) (x4 : Int) : ∀ u ∈ [Value.int .i64 x0, .int .i64 x1, .int .i64 x2, .string x3, .int .i64 x4], u.oneCell' = true := by
  intro u hu; simp at hu; rcases hu with rfl | rfl | rfl | rfl | rfl <;> rfl
theorem infoF_parts : ∃ i, Try.prog.info? 30 = some i ∧ i.zero = some (.agg #[.int .i64 0, .int .i64 0, .int .i64 0, .string ⟨#[]⟩, .int .i64 0]) ∧ i.size = 5 ∧ i.bytes = 48 := by
  obtain ⟨i, hi, hz⟩ := Option.map_eq_some_iff.1 infoFlight
  simp only [Prod.mk.injEq] at hz
  exact ⟨i, hi, hz.1, hz.2.1, hz.2.2⟩
theorem own_butF {w w' : World} {base p : Nat} {e : TypeId} {size : Nat} {v : Value} {n : Nat} {xs : List Value} (h : w.ownsRow base e size v n xs) (hb : But p w w') (hp : p < base) : w'.ownsRow base e size v n xs := by
  refine World.ownsRow.kept h hb.gr ?_
  cases hv : v.ownBlock with
  | none => exact .inl rfl
  | some k =>
    right
    intro e
    have := (World.ownsRow.lt h k hv).1
    injection e with e
    omega
theorem cells_src {w : World} {b n : Nat} {M : Nat → FT} (h : Cs w b 0 (n * 5) (MFFlight M)) : ∀ j u, (frow M n)[j]? = some u → w.cell? ((⟨b, 0, none⟩ : Addr).add j) = some u := by
  intro j u hu
  obtain ⟨hj, rfl⟩ := frow_get hu
  have h := h.2 j hj
  rw [Nat.zero_add] at h
  unfold Addr.add
  split
  · next e => subst e; exact h
  · rw [Nat.zero_add]; exact h
set_option maxRecDepth 100000 in
set_option maxHeartbeats 4000000 in
theorem l5Copy_any (nx : Int) (b n c : Nat) (M : Nat → FT) (w : World) (hn : n ≤ 40) (hf : Cs w b 0 (n * 5) (MFFlight M)) :
    Calls Try.prog 22 #[.agg #[.int .i64 nx, .slice (some ⟨b, 0, none⟩) n c]] w fun e w' => ∃ a' c', e = .returned (.agg #[.int .i64 nx, .slice a' n c']) ∧ w'.ownsRow w.heap.size 30 5 (.slice a' n c') n (frow M n) ∧ Below w.heap.size w w' := by
  obtain ⟨i0, hi, hz0, hz1, hz2⟩ := infoF_parts
  have N := (NB.new w nx (some ⟨b, 0, none⟩) n c 26).below (Below.nw _ (.cells #[.int .i64 0, .slice none 0 0] 26))
  have R := B2.new (w.alloc (.cells #[.int .i64 nx, .slice (some ⟨b, 0, none⟩) n c] 26)) (.int .i64 0) (.slice none 0 0) 26
  have A1 := Below.nw w (.cells #[.int .i64 nx, .slice (some ⟨b, 0, none⟩) n c] 26)
  have B := A1.alloc A1.size (.cells #[.int .i64 0, .slice none 0 0] 26)
  have CS := hf.below B hf.1
  have hbw := hf.1
  simp only [World.size_alloc] at R
  clear hf A1
  go_enter Try.func22, Try.ntmps22
  go_wp2_with fail
  generalize (w.alloc (.cells #[.int .i64 nx, .slice (some ⟨b, 0, none⟩) n c] 26)).alloc (.cells #[.int .i64 0, .slice none 0 0] 26) = v at *
  obtain ⟨n0, n1, n2⟩ := id N
  obtain ⟨r0, r1, r2, r3, r4⟩ := id R
  refine wp_region_held_drew (S := (fun w' => w'.cell? ⟨w.heap.size, 0, none⟩ = some (.int .i64 nx) ∧ w'.cell? ⟨w.heap.size, 1, none⟩ = some (.slice (some ⟨b, 0, none⟩) n c))) (by kernel_rfl) ?_ (fun hHeld => ?_)
  · first | exact ⟨n1, n2⟩ | (simp (maxDischargeDepth := 6) [go_sem, *]; done)
  clear n0 n1 n2 r0 r1 r2 r3 r4
  replace N := N.drew
  replace R := R.drew
  replace B := Below.drew B
  replace CS := CS.drew
  generalize v.drew = v at *
  (obtain ⟨n0, n1, n2⟩ := id N); (obtain ⟨r0, r1, r2, r3, r4⟩ := id R)
  refine wpAnyH_take (i := 0) (v := ?_) (by rw [List.getElem?_toArray]; rfl) (by kernel_rfl) (by kernel_rfl) (by kernel_rfl) (by intro _ _ _ h; exact h) (Or.inl ⟨by rfl, ?_⟩) (by assumption) ?_
  rotate_left
  · (intro w hSw; (try dsimp only at hSw); go_simp; all_goals with_reducible rfl)
  (try simp only [Act.put, List.setIfInBounds_toArray, List.set_cons_zero, List.set_cons_succ])
  refine wpAnyH_take (i := 1) (v := ?_) (by rw [List.getElem?_toArray]; rfl) (by kernel_rfl) (by kernel_rfl) (by kernel_rfl) (by intro _ _ _ h; exact h) (Or.inl ⟨by rfl, ?_⟩) (by assumption) ?_
  rotate_left
  · (intro w hSw; (try dsimp only at hSw); go_simp; all_goals with_reducible rfl)
  (try simp only [Act.put, List.setIfInBounds_toArray, List.set_cons_zero, List.set_cons_succ])
  refine wpAnyH_take (i := 3) (v := ?_) (by rw [List.getElem?_toArray]; rfl) (by kernel_rfl) (by kernel_rfl) (by kernel_rfl) (by intro _ _ _ h; exact h) (Or.inl ⟨by rfl, ?_⟩) (by assumption) ?_
  rotate_left
  · (intro w hSw; (try dsimp only at hSw); go_simp; all_goals with_reducible rfl)
  (try simp only [Act.put, List.setIfInBounds_toArray, List.set_cons_zero, List.set_cons_succ])
  refine wpAnyH_take (i := 4) (v := ?_) (by rw [List.getElem?_toArray]; rfl) (by kernel_rfl) (by kernel_rfl) (by kernel_rfl) (by intro _ _ _ h; exact h) (Or.inl ⟨by rfl, ?_⟩) (by assumption) ?_
  rotate_left
  · (intro w hSw; (try dsimp only at hSw); go_simp; all_goals with_reducible rfl)
  (try simp only [Act.put, List.setIfInBounds_toArray, List.set_cons_zero, List.set_cons_succ])
  refine wpAnyH_ready (rs := [2]) (by kernel_rfl) (by simp) ?_
  refine (AllReadyH.cons (by rw [List.getElem?_toArray]; rfl) (fun K hK => ?_) AllReadyH.nil)
  go_simp
  (have hvz : w.heap.size + 2 ≤ v.heap.size := r0); (have O := World.ownsRow_made (base := w.heap.size + 2) (size := 5) (e := 30) v #[] 0 hvz (by simp [maxLen]) (by simp)); (have A := Below.nw v (.cells #[] 30)); clear n0 n1 n2 r0 r1 r2 r3 r4; (replace N := N.below A); (replace R := R.below A); (replace CS := CS.below A CS.1); (replace B := B.trans (A.mono B.size)); (have hsz : w.heap.size + 2 ≤ (v.alloc (.cells #[] 30)).heap.size := Nat.le_trans hvz A.size); clear A; (generalize v.alloc (.cells #[] 30) = v2 at *); (obtain ⟨n0, n1, n2⟩ := id N); (obtain ⟨r0, r1, r2, r3, r4⟩ := id R)
  refine hK.out _ _ ?_ (fun hHeld => ?_)
  · first | exact ⟨n1, n2⟩ | (simp (maxDischargeDepth := 6) [go_sem, *]; done)
  clear hK K
  (try simp only [Act.put, List.setIfInBounds_toArray, List.set_cons_zero, List.set_cons_succ])
  refine wpAnyH_ready (rs := [5]) (by kernel_rfl) (by simp) ?_
  refine (AllReadyH.cons (by rw [List.getElem?_toArray]; rfl) (fun K hK => ?_) AllReadyH.nil)
  rw [if_pos (by rfl)]; (have HN : Hid (∀ j u, (frow M n)[j]? = some u → v2.cell? ((⟨b, 0, none⟩ : Addr).add j) = some u) := cells_src CS); refine wp_append_own _ _ _ 24 rfl (w.heap.size + 2) 30 i0 (.agg #[.int .i64 0, .int .i64 0, .int .i64 0, .string ⟨#[]⟩, .int .i64 0]) 5 48 Try.underlying24 hi hz0 hz1 hz2 rfl (by decide) _ _ _ rfl O ⟨b, 0, none⟩ n c (frow M n) rfl (frow_len M n) HN.out (frow_one M n) (by unfold maxLen; omega) (by omega) hsz ?_; intro v' wn hown' hgrow _; (have Bg := But.ofGrown hgrow); clear n0 n1 n2 r0 r1 r2 r3 r4; (replace N := N.but Bg (Nat.ne_of_lt (Nat.lt_of_lt_of_le (by omega) hvz))); (replace R := R.but Bg (Nat.ne_of_lt (Nat.lt_of_lt_of_le (by omega) hvz))); (replace B := B.trans (Bg.below (Nat.le_trans (by omega) hvz) B.size)); rw [Nat.zero_add, List.nil_append] at hown'; (obtain ⟨a', c', rfl, _, _, _⟩ := ownF_src hown'); clear hgrow HN Bg; (obtain ⟨n0, n1, n2⟩ := id N); (obtain ⟨r0, r1, r2, r3, r4⟩ := id R)
  refine hK.out _ _ ?_ (fun hHeld => ?_)
  · first | exact ⟨n1, n2⟩ | (simp (maxDischargeDepth := 6) [go_sem, *]; done)
  clear hK K
  (try simp only [Act.put, List.setIfInBounds_toArray, List.set_cons_zero, List.set_cons_succ])
  refine wpAnyH_take (i := 6) (v := ?_) (by rw [List.getElem?_toArray]; rfl) (by kernel_rfl) (by kernel_rfl) (by kernel_rfl) (by intro _ _ _ h; exact h) (Or.inl ⟨by rfl, ?_⟩) (by assumption) ?_
  rotate_left
  · (intro w hSw; (try dsimp only at hSw); go_simp; all_goals with_reducible rfl)
  (try simp only [Act.put, List.setIfInBounds_toArray, List.set_cons_zero, List.set_cons_succ])
  refine wpAnyH_ready (rs := [7]) (by kernel_rfl) (by simp) ?_
  refine (AllReadyH.cons (by rw [List.getElem?_toArray]; rfl) (fun K hK => ?_) AllReadyH.nil)
  go_simp
  refine hK.out _ _ ?_ (fun hHeld => ?_)
  · first | exact ⟨n1, n2⟩ | (simp (maxDischargeDepth := 6) [go_sem, *]; done)
  clear hK K
  (try simp only [Act.put, List.setIfInBounds_toArray, List.set_cons_zero, List.set_cons_succ])
  refine wpAnyH_done (by kernel_rfl) ?_ _
  go_wp2_with fail
  have PB := ((But.refl (w.heap.size + 1) wn).setCell 0 (.int .i64 nx)).setCell 1 (.slice a' n c')
  exact bodyPost_ret (v := .agg #[.int .i64 nx, .slice a' n c']) (by simp (maxDischargeDepth := 6) [results, Try.results22, go_sem, *]) rfl ⟨a', c', rfl, ownB_le (own_butF hown' PB (by omega)) (by omega), B.trans (PB.below (by omega) B.size)⟩
def TkIs (nx : Int) (M : Nat → FT) (n : Nat) (i : Int) (X : Int) (m : Nat) (G : Nat → FT) (Y : FT) (C : Int) : Prop :=
  (netB nx M n = false ∧ X = 0 ∧ m = 0 ∧ Y = zF ∧ C = 1) ∨ (netB nx M n = true ∧ ¬ (0 ≤ i ∧ i < (n : Int)) ∧ X = nx ∧ m = n ∧ G = M ∧ Y = zF ∧ C = 2) ∨ (netB nx M n = true ∧ ∃ k : Nat, i = (k : Int) ∧ k < n ∧ X = nx ∧ m = n - 1 ∧ G = cutG M k ∧ Y = M k ∧ C = 0)
theorem tk_ex (nx : Int) (M : Nat → FT) (n : Nat) (i : Int) : ∃ X m G Y C, TkIs nx M n i X m G Y C ∧ m ≤ n := by
  cases h : netB nx M n
  · exact ⟨0, 0, M, zF, 1, .inl ⟨h, rfl, rfl, rfl, rfl⟩, Nat.zero_le _⟩
  · by_cases hi : 0 ≤ i ∧ i < (n : Int)
    · exact ⟨nx, n - 1, cutG M i.toNat, M i.toNat, 0, .inr (.inr ⟨h, i.toNat, by omega, by omega, rfl, rfl, rfl, rfl, rfl⟩), by omega⟩
    · exact ⟨nx, n, M, zF, 2, .inr (.inl ⟨h, hi, rfl, rfl, rfl, rfl, rfl⟩), Nat.le_refl _⟩
theorem grown_belowF {w w' : World} {base : Nat} {e : TypeId} {size : Nat} {v : Value} {n : Nat} {xs : List Value} (h : w.ownsRow base e size v n xs) (hg : w.grownBy w' v.ownBlock) (hs : base ≤ w.heap.size) : Below base w w' :=
  ⟨hg.os, hg.tape, hg.output, hg.size, fun k hk => hg.block k (by omega) (fun he => by have := (World.ownsRow.lt h k he.symm).1; omega)⟩
theorem own_srcF {w : World} {base n c : Nat} {a : Option Addr} {G : Nat → FT} (h : w.ownsRow base 30 5 (.slice a n c) n (frow G n)) : SrcC w a (n * 5) (MFFlight G) := by
  obtain ⟨a2, c2, e2, _, _, S⟩ := ownF_src h
  injection e2 with e2 e3 e4
  subst e2
  exact S
theorem netB_n {nx : Int} {M : Nat → FT} {n : Nat} (h : netB nx M n = true) : n ≤ 40 := by
  by_cases hn : n ≤ 40
  · exact hn
  · rw [netB_long hn] at h; exact absurd h (by decide)
def ct (i k : Nat) : Nat := if k ≤ i then k else k - 1
theorem cut_at {M : Nat → FT} {i k : Nat} (h : k ≠ i) : cutG M i (ct i k) = M k ∧ ct i (k + 1) = ct i k + 1 := by
  unfold cutG ct
  by_cases h1 : k ≤ i
  · rw [if_pos h1, if_pos (by omega), if_pos (by omega)]; exact ⟨rfl, rfl⟩
  · rw [if_neg h1, if_neg (by omega), if_neg (by omega)]
    exact ⟨by rw [show k - 1 + 1 = k by omega], by omega⟩
theorem ct_same (i : Nat) : ct i (i + 1) = ct i i := by unfold ct; rw [if_neg (by omega), if_pos (Nat.le_refl _)]; omega
theorem ct_end {i n : Nat} (h : i < n) : ct i n = n - 1 := by unfold ct; rw [if_neg (by omega)]
theorem ct_le (i k : Nat) : ct i k ≤ k := by unfold ct; split <;> omega
set_option maxHeartbeats 4000000 in
theorem specNetTake_bad (nx i : Int) (b n c : Nat) (M : Nat → FT) (w : World) (hm : n ≤ maxLen) (hf : Cs w b 0 (n * 5) (MFFlight M)) (hs : ∀ i, i < n → ((M i).2.2.2.1).size ≤ maxLen) (h : netB nx M n = false) :
    Calls Try.prog 7 #[.agg #[.int .i64 nx, .slice (some ⟨b, 0, none⟩) n c], .int .i64 i] w fun e w' => e = .returned (.tuple #[.agg #[.int .i64 0, .slice none 0 0], .agg #[.int .i64 0, .int .i64 0, .int .i64 0, .string ⟨#[]⟩, .int .i64 0], .int .i64 1]) ∧ Below w.heap.size w w' := by
  have R1 := (B2.new (w.alloc (.cells #[.int .i64 nx, .slice (some ⟨b, 0, none⟩) n c] 26)) (.int .i64 0) (.slice none 0 0) 26).below (Below.nw _ (.cells #[.int .i64 0, .int .i64 0, .int .i64 0, .string ⟨#[]⟩, .int .i64 0] 30))
  have R2 := F5.new ((w.alloc (.cells #[.int .i64 nx, .slice (some ⟨b, 0, none⟩) n c] 26)).alloc (.cells #[.int .i64 0, .slice none 0 0] 26)) 0 0 0 ⟨#[]⟩ 0 30
  have A1 := Below.nw w (.cells #[.int .i64 nx, .slice (some ⟨b, 0, none⟩) n c] 26)
  have A2 := A1.alloc A1.size (.cells #[.int .i64 0, .slice none 0 0] 26)
  have B := A2.alloc A2.size (.cells #[.int .i64 0, .int .i64 0, .int .i64 0, .string ⟨#[]⟩, .int .i64 0] 30)
  have CO := fun w' (h' : Cs w' b 0 (n * 5) (MFFlight M)) => specNetOk_any nx (some ⟨b, 0, none⟩) n c M w' hm (.inr ⟨b, 0, rfl, h'⟩) hs
  rw [h] at CO
  have CS := hf.below B hf.1
  simp only [World.size_alloc] at R1 R2
  clear hf A1 A2 h
  go_enter Try.func7, Try.ntmps7
  go_wp2_with fail
  refine (CO _ CS).mono ?_
  rintro e v ⟨rfl, hb⟩
  replace B := B.trans (hb.mono B.size)
  obtain ⟨r0, r1, r2, r3, r4⟩ := R1.below hb
  obtain ⟨f0, f1, f2, f3, f4, f5, f6, f7, f8, f9, f10⟩ := R2.below hb
  clear hb CO CS R1 R2
  go_wp2
  have PB1 := ((But.refl (w.heap.size + 1) v).setCell 0 (.int .i64 0)).setCell 1 (.slice none 0 0)
  have PB2 := put5_but ((v.setCell ⟨w.heap.size + 1, 0, none⟩ (.int .i64 0)).setCell ⟨w.heap.size + 1, 1, none⟩ (.slice none 0 0)) (w.heap.size + 1 + 1) 0 (.int .i64 0) (.int .i64 0) (.int .i64 0) (.string ⟨#[]⟩) (.int .i64 0)
  exact bodyPost_ret (v := .tuple #[.agg #[.int .i64 0, .slice none 0 0], .agg #[.int .i64 0, .int .i64 0, .int .i64 0, .string ⟨#[]⟩, .int .i64 0], .int .i64 1]) (by simp (maxDischargeDepth := 6) [results, Try.results7, go_sem, *]) rfl ⟨rfl, (B.trans (PB1.below (by omega) B.size)).trans (PB2.below (by omega) (B.trans (PB1.below (B := w.heap.size) (by omega) B.size)).size)⟩
set_option maxHeartbeats 4000000 in
theorem specNetTake_none (nx i : Int) (b n c : Nat) (M : Nat → FT) (w : World) (hm : n ≤ maxLen) (hf : Cs w b 0 (n * 5) (MFFlight M)) (hs : ∀ i, i < n → ((M i).2.2.2.1).size ≤ maxLen) (h : netB nx M n = true) (hi : ¬ (0 ≤ i ∧ i < (n : Int))) :
    Calls Try.prog 7 #[.agg #[.int .i64 nx, .slice (some ⟨b, 0, none⟩) n c], .int .i64 i] w fun e w' => ∃ a' c', e = .returned (.tuple #[.agg #[.int .i64 nx, .slice a' n c'], .agg #[.int .i64 0, .int .i64 0, .int .i64 0, .string ⟨#[]⟩, .int .i64 0], .int .i64 2]) ∧ w'.ownsRow w.heap.size 30 5 (.slice a' n c') n (frow M n) ∧ Below w.heap.size w w' := by
  have hn40 := netB_n h
  have N := ((NB.new w nx (some ⟨b, 0, none⟩) n c 26).below (Below.nw _ (.cells #[.int .i64 0, .slice none 0 0] 26))).below (Below.nw _ (.cells #[.int .i64 0, .int .i64 0, .int .i64 0, .string ⟨#[]⟩, .int .i64 0] 30))
  have R1 := (B2.new (w.alloc (.cells #[.int .i64 nx, .slice (some ⟨b, 0, none⟩) n c] 26)) (.int .i64 0) (.slice none 0 0) 26).below (Below.nw _ (.cells #[.int .i64 0, .int .i64 0, .int .i64 0, .string ⟨#[]⟩, .int .i64 0] 30))
  have R2 := F5.new ((w.alloc (.cells #[.int .i64 nx, .slice (some ⟨b, 0, none⟩) n c] 26)).alloc (.cells #[.int .i64 0, .slice none 0 0] 26)) 0 0 0 ⟨#[]⟩ 0 30
  have A1 := Below.nw w (.cells #[.int .i64 nx, .slice (some ⟨b, 0, none⟩) n c] 26)
  have A2 := A1.alloc A1.size (.cells #[.int .i64 0, .slice none 0 0] 26)
  have B := A2.alloc A2.size (.cells #[.int .i64 0, .int .i64 0, .int .i64 0, .string ⟨#[]⟩, .int .i64 0] 30)
  have CO := fun w' (h' : Cs w' b 0 (n * 5) (MFFlight M)) => specNetOk_any nx (some ⟨b, 0, none⟩) n c M w' hm (.inr ⟨b, 0, rfl, h'⟩) hs
  rw [h] at CO
  have CS := hf.below B hf.1
  have hbw := hf.1
  simp only [World.size_alloc] at R1 R2
  clear hf A1 A2 h
  go_enter Try.func7, Try.ntmps7
  go_wp2_with fail
  refine (CO _ CS).mono ?_
  rintro e v ⟨rfl, hb⟩
  replace B := B.trans (hb.mono B.size)
  replace N := N.below hb
  replace R1 := R1.below hb
  replace R2 := R2.below hb
  replace CS := CS.below hb CS.1
  clear hb CO
  obtain ⟨n0, n1, n2⟩ := id N
  by_cases hi0 : i < 0
  · have d1 : decide (i < 0) = true := decide_eq_true hi0
    go_wp2_with fail
    refine (l5Copy_any nx b n c M v hn40 CS).mono ?_
    rintro e v2 ⟨a', c', rfl, O2, hb⟩
    replace B := B.trans (hb.mono B.size)
    have hv2 : w.heap.size + 1 + 1 < v.heap.size := R2.1
    obtain ⟨r0, r1, r2, r3, r4⟩ := R1.below hb
    obtain ⟨f0, f1, f2, f3, f4, f5, f6, f7, f8, f9, f10⟩ := R2.below hb
    clear hb CS R1 R2 N n0 n1 n2
    go_wp2_with fail
    have PB1 := ((But.refl (w.heap.size + 1) v2).setCell 0 (.int .i64 nx)).setCell 1 (.slice a' n c')
    have PB2 := put5_but ((v2.setCell ⟨w.heap.size + 1, 0, none⟩ (.int .i64 nx)).setCell ⟨w.heap.size + 1, 1, none⟩ (.slice a' n c')) (w.heap.size + 1 + 1) 0 (.int .i64 0) (.int .i64 0) (.int .i64 0) (.string ⟨#[]⟩) (.int .i64 0)
    exact bodyPost_ret (v := .tuple #[.agg #[.int .i64 nx, .slice a' n c'], .agg #[.int .i64 0, .int .i64 0, .int .i64 0, .string ⟨#[]⟩, .int .i64 0], .int .i64 2]) (by simp (maxDischargeDepth := 6) [results, Try.results7, go_sem, *]) rfl ⟨a', c', rfl, ownB_le (own_butF (own_butF O2 PB1 (by omega)) PB2 (by omega)) (by omega), (B.trans (PB1.below (by omega) B.size)).trans (PB2.below (by omega) (B.trans (PB1.below (B := w.heap.size) (by omega) B.size)).size)⟩
  · have d1 : decide (i < 0) = false := decide_eq_false hi0
    have d2 : decide ((n : Int) ≤ i) = true := decide_eq_true (by omega)
    go_wp2_with fail
    refine (l5Copy_any nx b n c M v hn40 CS).mono ?_
    rintro e v2 ⟨a', c', rfl, O2, hb⟩
    replace B := B.trans (hb.mono B.size)
    have hv2 : w.heap.size + 1 + 1 < v.heap.size := R2.1
    obtain ⟨r0, r1, r2, r3, r4⟩ := R1.below hb
    obtain ⟨f0, f1, f2, f3, f4, f5, f6, f7, f8, f9, f10⟩ := R2.below hb
    clear hb CS R1 R2 N n0 n1 n2
    go_wp2_with fail
    have PB1 := ((But.refl (w.heap.size + 1) v2).setCell 0 (.int .i64 nx)).setCell 1 (.slice a' n c')
    have PB2 := put5_but ((v2.setCell ⟨w.heap.size + 1, 0, none⟩ (.int .i64 nx)).setCell ⟨w.heap.size + 1, 1, none⟩ (.slice a' n c')) (w.heap.size + 1 + 1) 0 (.int .i64 0) (.int .i64 0) (.int .i64 0) (.string ⟨#[]⟩) (.int .i64 0)
    exact bodyPost_ret (v := .tuple #[.agg #[.int .i64 nx, .slice a' n c'], .agg #[.int .i64 0, .int .i64 0, .int .i64 0, .string ⟨#[]⟩, .int .i64 0], .int .i64 2]) (by simp (maxDischargeDepth := 6) [results, Try.results7, go_sem, *]) rfl ⟨a', c', rfl, ownB_le (own_butF (own_butF O2 PB1 (by omega)) PB2 (by omega)) (by omega), (B.trans (PB1.below (by omega) B.size)).trans (PB2.below (by omega) (B.trans (PB1.below (B := w.heap.size) (by omega) B.size)).size)⟩
theorem B2.set1 {w : World} {j : Nat} {u0 u1 : Value} (h : B2 w j u0 u1) (a1 : Value) : B2 (w.setCell ⟨j, 1, none⟩ a1) j u0 a1 := by
  obtain ⟨h0, c0, c1, f0, f1⟩ := h
  exact ⟨by simpa using h0, by rw [World.cell?_setCell_other _ _ _ _ (by simp)]; exact c0, World.cell?_setCell_same _ _ _ c1, by simpa using f0, by simpa using f1⟩
theorem B2.setB {w : World} {j : Nat} {u0 u1 : Value} (h : B2 w j u0 u1) (a0 a1 : Value) : B2 ((w.setCell ⟨j, 0, none⟩ a0).setCell ⟨j, 1, none⟩ a1) j a0 a1 := by
  obtain ⟨h0, c0, c1, f0, f1⟩ := h
  refine ⟨by simpa using h0, ?_, ?_, by simpa using f0, by simpa using f1⟩
  · rw [World.cell?_setCell_other _ _ _ _ (by simp), World.cell?_setCell_same _ _ _ c0]
  · exact World.cell?_setCell_same _ _ _ (by rw [World.cell?_setCell_other _ _ _ _ (by simp)]; exact c1)
def put5z (w : World) (j : Nat) (a0 a1 a2 a3 a4 : Value) : World := ((((w.setCell ⟨j, 0, none⟩ a0).setCell ⟨j, 1, none⟩ a1).setCell ⟨j, 2, none⟩ a2).setCell ⟨j, 3, none⟩ a3).setCell ⟨j, 4, none⟩ a4
theorem put5z_but (w : World) (j : Nat) (a0 a1 a2 a3 a4 : Value) : But j w (put5z w j a0 a1 a2 a3 a4) := (((((But.refl j w).setCell _ a0).setCell _ a1).setCell _ a2).setCell _ a3).setCell _ a4
theorem F5.set5 {w : World} {j : Nat} {x0 x1 x2 : Int} {x3 : ByteArray} {x4 : Int} (h : F5 w j x0 x1 x2 x3 x4) (y0 y1 y2 : Int) (y3 : ByteArray) (y4 : Int) : F5 (put5z w j (.int .i64 y0) (.int .i64 y1) (.int .i64 y2) (.string y3) (.int .i64 y4)) j y0 y1 y2 y3 y4 := by
  obtain ⟨h0, c0, c1, c2, c3, c4, f0, f1, f2, f3, f4⟩ := h
  have n0 : ∀ (W : World) (i k : Nat) (u : Value), i ≠ k → (W.setCell ⟨j, i, none⟩ u).cell? ⟨j, k, none⟩ = W.cell? ⟨j, k, none⟩ := fun W i k u hik => World.cell?_setCell_other _ _ _ _ (by intro e; exact hik (congrArg Addr.off e))
  refine ⟨by simpa [put5z] using h0, ?_, ?_, ?_, ?_, ?_, by simpa [put5z] using f0, by simpa [put5z] using f1, by simpa [put5z] using f2, by simpa [put5z] using f3, by simpa [put5z] using f4⟩
  · unfold put5z; rw [n0 _ _ _ _ (by decide), n0 _ _ _ _ (by decide), n0 _ _ _ _ (by decide), n0 _ _ _ _ (by decide)]; exact World.cell?_setCell_same _ _ _ c0
  · unfold put5z; rw [n0 _ _ _ _ (by decide), n0 _ _ _ _ (by decide), n0 _ _ _ _ (by decide)]; exact World.cell?_setCell_same _ _ _ (by rw [n0 _ _ _ _ (by decide)]; exact c1)
  · unfold put5z; rw [n0 _ _ _ _ (by decide), n0 _ _ _ _ (by decide)]; exact World.cell?_setCell_same _ _ _ (by rw [n0 _ _ _ _ (by decide), n0 _ _ _ _ (by decide)]; exact c2)
  · unfold put5z; rw [n0 _ _ _ _ (by decide)]; exact World.cell?_setCell_same _ _ _ (by rw [n0 _ _ _ _ (by decide), n0 _ _ _ _ (by decide), n0 _ _ _ _ (by decide)]; exact c3)
  · unfold put5z; exact World.cell?_setCell_same _ _ _ (by rw [n0 _ _ _ _ (by decide), n0 _ _ _ _ (by decide), n0 _ _ _ _ (by decide), n0 _ _ _ _ (by decide)]; exact c4)
def TkInv (nx : Int) (M : Nat → FT) (w : World) (i b n c jo k : Nat) (wr : World) : Prop := ∃ vk : Value, B2 wr jo (.int .i64 nx) vk ∧ wr.ownsRow (jo + 1) 30 5 vk (ct i k) (frow (cutG M i) (ct i k)) ∧ NB wr w.heap.size nx (some ⟨b, 0, none⟩) n c ∧ B2 wr (w.heap.size + 1) (.int .i64 0) (.slice none 0 0) ∧ F5 wr (w.heap.size + 1 + 1) 0 0 0 ⟨#[]⟩ 0 ∧ Cs wr b 0 (n * 5) (MFFlight M) ∧ Below w.heap.size w wr
set_option maxRecDepth 100000 in
set_option maxHeartbeats 4000000 in
theorem specNetTake_done (nx : Int) (i b n c : Nat) (M : Nat → FT) (y0 y1 y2 : Int) (y3 : ByteArray) (y4 : Int) (w : World) (hm : n ≤ maxLen) (hf : Cs w b 0 (n * 5) (MFFlight M)) (hs : ∀ i, i < n → ((M i).2.2.2.1).size ≤ maxLen) (h : netB nx M n = true) (hin : i < n) (hY : M i = (y0, y1, y2, y3, y4)) :
    Calls Try.prog 7 #[.agg #[.int .i64 nx, .slice (some ⟨b, 0, none⟩) n c], .int .i64 (i : Int)] w fun e w' => ∃ a' c', e = .returned (.tuple #[.agg #[.int .i64 nx, .slice a' (n - 1) c'], .agg #[.int .i64 y0, .int .i64 y1, .int .i64 y2, .string y3, .int .i64 y4], .int .i64 0]) ∧ w'.ownsRow w.heap.size 30 5 (.slice a' (n - 1) c') (n - 1) (frow (cutG M i) (n - 1)) ∧ Below w.heap.size w w' := by
  have hn40 := netB_n h
  obtain ⟨i0, hi, hz0, hz1, hz2⟩ := infoF_parts
  have N := ((NB.new w nx (some ⟨b, 0, none⟩) n c 26).below (Below.nw _ (.cells #[.int .i64 0, .slice none 0 0] 26))).below (Below.nw _ (.cells #[.int .i64 0, .int .i64 0, .int .i64 0, .string ⟨#[]⟩, .int .i64 0] 30))
  have R1 := (B2.new (w.alloc (.cells #[.int .i64 nx, .slice (some ⟨b, 0, none⟩) n c] 26)) (.int .i64 0) (.slice none 0 0) 26).below (Below.nw _ (.cells #[.int .i64 0, .int .i64 0, .int .i64 0, .string ⟨#[]⟩, .int .i64 0] 30))
  have R2 := F5.new ((w.alloc (.cells #[.int .i64 nx, .slice (some ⟨b, 0, none⟩) n c] 26)).alloc (.cells #[.int .i64 0, .slice none 0 0] 26)) 0 0 0 ⟨#[]⟩ 0 30
  have A1 := Below.nw w (.cells #[.int .i64 nx, .slice (some ⟨b, 0, none⟩) n c] 26)
  have A2 := A1.alloc A1.size (.cells #[.int .i64 0, .slice none 0 0] 26)
  have B := A2.alloc A2.size (.cells #[.int .i64 0, .int .i64 0, .int .i64 0, .string ⟨#[]⟩, .int .i64 0] 30)
  have CO := fun w' (h' : Cs w' b 0 (n * 5) (MFFlight M)) => specNetOk_any nx (some ⟨b, 0, none⟩) n c M w' hm (.inr ⟨b, 0, rfl, h'⟩) hs
  rw [h] at CO
  have CS := hf.below B hf.1
  have hbw := hf.1
  have HY : Hid (M i = (y0, y1, y2, y3, y4)) := hY
  simp only [World.size_alloc] at R1 R2
  clear hf A1 A2 h hY hs
  go_enter Try.func7, Try.ntmps7
  go_wp2_with fail
  refine (CO _ CS).mono ?_
  rintro e v ⟨rfl, hb⟩
  replace B := B.trans (hb.mono B.size)
  replace N := N.below hb
  replace R1 := R1.below hb
  replace R2 := R2.below hb
  replace CS := CS.below hb CS.1
  clear hb CO
  have A3 := Below.nw v (.cells #[.int .i64 nx, .slice none 0 0] 26)
  have O := B2.new v (.int .i64 nx) (.slice none 0 0) 26
  obtain ⟨n0, n1, n2⟩ := id N
  have d1 : decide ((i : Int) < 0) = false := decide_eq_false (by omega)
  have d2 : decide ((n : Int) ≤ (i : Int)) = false := decide_eq_false (by omega)
  have d3 : decide (n ≤ i) = false := decide_eq_false (by omega)
  go_wp2_with fail
  have hjo : w.heap.size + 1 + 1 < v.heap.size := R2.1
  replace B := B.trans (A3.mono B.size)
  replace N := N.below A3
  replace R1 := R1.below A3
  replace R2 := R2.below A3
  replace CS := CS.below A3 CS.1
  have W0 : (v.alloc (.cells #[.int .i64 nx, .slice none 0 0] 26)).ownsRow (v.heap.size + 1) 30 5 (.slice none 0 0) (ct i 0) (frow (cutG M i) (ct i 0)) := by
    have e : ct i 0 = 0 := by simp [ct]
    rw [e]; exact World.ownsRow_nil _ _ _ _
  clear A3 n0 n1 n2 d1 d2 d3
  generalize v.heap.size = jo at *
  generalize v.alloc (.cells #[.int .i64 nx, .slice none 0 0] 26) = v1 at *
  go_loopw [8] (fun s8 wr => ∃ k : Nat, k ≤ n ∧ s8 = .int .i64 (k : Int) ∧ TkInv nx M w i b n c jo k wr) (fun s8 _ => n - (intOf s8).toNat)
  case atStart => exact ⟨0, Nat.zero_le _, rfl, _, O, W0, N, R1, R2, CS, B⟩
  case round =>
    clear O W0 N R1 R2 CS B
    obtain ⟨k, hk, rfl, vk, O, W, N, R1, R2, CS, B⟩ := hrel
    obtain ⟨n0, n1, n2⟩ := id N
    obtain ⟨o0, o1, o2, o3, o4⟩ := id O
    by_cases hlt : k < n
    · have hli : decide ((k : Int) < (n : Int)) = true := decide_eq_true (by omega)
      by_cases hki : k = i
      · subst hki
        have e := ct_same k
        go_wp2_with fail
        go_roundw
        case rel => exact ⟨k + 1, by omega, by go_num, vk, O, by rw [e]; exact W, N, R1, R2, CS, B⟩
        case measure => simp [intOf]; omega
      · have hne : ((k : Int) == (i : Int)) = false := by rw [beq_eq_false_iff_ne]; omega
        obtain ⟨ec, en⟩ := cut_at (M := M) hki
        obtain ⟨x0, x1, x2, x3, x4, hM⟩ := tupFlight M k
        obtain ⟨c0, c1, c2, c3, c4⟩ := CS.elFlight hlt hM
        have HW : Hid (frow (cutG M i) (ct i k) ++ [.int .i64 x0, .int .i64 x1, .int .i64 x2, .string x3, .int .i64 x4] = frow (cutG M i) (ct i k + 1)) := frow_add (ec.trans hM)
        have hcl := ct_le i k
        have HEN : Hid (ct i (k + 1) = ct i k + 1) := en
        rw [Nat.zero_add] at c0 c1 c2 c3 c4
        clear ec en hM
        generalize ct i k = q at *
        go_wp2_with fail
        have hbj : b < jo + 1 := by omega
        refine wp_region_held_drew (S := (fun w' => w'.cell? ⟨w.heap.size, 1, none⟩ = some (.slice (some ⟨b, 0, none⟩) n c) ∧ w'.cell? ⟨b, k * 5, none⟩ = some (.int .i64 x0) ∧ w'.cell? ⟨b, k * 5 + 1, none⟩ = some (.int .i64 x1) ∧ w'.cell? ⟨b, k * 5 + 2, none⟩ = some (.int .i64 x2) ∧ w'.cell? ⟨b, k * 5 + 3, none⟩ = some (.string x3) ∧ w'.cell? ⟨b, k * 5 + 4, none⟩ = some (.int .i64 x4))) (by kernel_rfl) ?_ (fun hHeld => ?_)
        · first | exact ⟨n2, c0, c1, c2, c3, c4⟩ | (simp (maxDischargeDepth := 6) [go_sem, *]; done)
        clear n0 n1 n2 o0 o1 o2 o3 o4
        replace N := N.drew
        replace O := O.drew
        replace R1 := R1.drew
        replace R2 := R2.drew
        replace B := Below.drew B
        replace CS := CS.drew
        replace W := World.ownsRow.drew W
        replace c0 : wr.drew.cell? _ = _ := c0
        replace c1 : wr.drew.cell? _ = _ := c1
        replace c2 : wr.drew.cell? _ = _ := c2
        replace c3 : wr.drew.cell? _ = _ := c3
        replace c4 : wr.drew.cell? _ = _ := c4
        generalize wr.drew = v at *
        (obtain ⟨n0, n1, n2⟩ := id N); (obtain ⟨o0, o1, o2, o3, o4⟩ := id O)
        refine wpAnyH_take (i := 0) (v := ?_) (by rw [List.getElem?_toArray]; rfl) (by kernel_rfl) (by kernel_rfl) (by kernel_rfl) (by intro _ _ _ h; exact h) (Or.inl ⟨by rfl, ?_⟩) (by assumption) ?_
        rotate_left
        · (intro w hSw; (try dsimp only at hSw); go_simp; all_goals with_reducible rfl)
        (try simp only [Act.put, List.setIfInBounds_toArray, List.set_cons_zero, List.set_cons_succ])
        refine wpAnyH_take (i := 2) (v := ?_) (by rw [List.getElem?_toArray]; rfl) (by kernel_rfl) (by kernel_rfl) (by kernel_rfl) (by intro _ _ _ h; exact h) (Or.inl ⟨by rfl, ?_⟩) (by assumption) ?_
        rotate_left
        · (intro w hSw; (try dsimp only at hSw); go_simp; all_goals with_reducible rfl)
        (try simp only [Act.put, List.setIfInBounds_toArray, List.set_cons_zero, List.set_cons_succ])
        refine wpAnyH_take (i := 3) (v := ?_) (by rw [List.getElem?_toArray]; rfl) (by kernel_rfl) (by kernel_rfl) (by kernel_rfl) (by intro _ _ _ h; exact h) (Or.inl ⟨by rfl, ?_⟩) (by assumption) ?_
        rotate_left
        · (intro w hSw; (try dsimp only at hSw); go_simp; all_goals with_reducible rfl)
        (try simp only [Act.put, List.setIfInBounds_toArray, List.set_cons_zero, List.set_cons_succ])
        refine wpAnyH_take (i := 4) (v := ?_) (by rw [List.getElem?_toArray]; rfl) (by kernel_rfl) (by kernel_rfl) (by kernel_rfl) (by intro _ _ _ h; exact h) (Or.inl ⟨by rfl, ?_⟩) (by assumption) ?_
        rotate_left
        · (intro w hSw; (try dsimp only at hSw); go_simp; all_goals with_reducible rfl)
        (try simp only [Act.put, List.setIfInBounds_toArray, List.set_cons_zero, List.set_cons_succ])
        refine wpAnyH_take (i := 5) (v := ?_) (by rw [List.getElem?_toArray]; rfl) (by kernel_rfl) (by kernel_rfl) (by kernel_rfl) (by intro _ _ _ h; exact h) (Or.inl ⟨by rfl, ?_⟩) (by assumption) ?_
        rotate_left
        · (intro w hSw; (try dsimp only at hSw); go_simp; all_goals with_reducible rfl)
        (try simp only [Act.put, List.setIfInBounds_toArray, List.set_cons_zero, List.set_cons_succ])
        refine wpAnyH_take (i := 6) (v := ?_) (by rw [List.getElem?_toArray]; rfl) (by kernel_rfl) (by kernel_rfl) (by kernel_rfl) (by intro _ _ _ h; exact h) (Or.inl ⟨by rfl, ?_⟩) (by assumption) ?_
        rotate_left
        · (intro w hSw; (try dsimp only at hSw); go_simp; all_goals with_reducible rfl)
        (try simp only [Act.put, List.setIfInBounds_toArray, List.set_cons_zero, List.set_cons_succ])
        refine wpAnyH_ready (rs := [1, 7]) (by kernel_rfl) (by simp) ?_
        refine (AllReadyH.cons (by rw [List.getElem?_toArray]; rfl) (fun K hK => ?_) (AllReadyH.cons (by rw [List.getElem?_toArray]; rfl) (fun K hK => ?_) AllReadyH.nil))
        · go_simp
          refine hK.out _ _ ?_ (fun hHeld => ?_)
          · first | exact ⟨n2, c0, c1, c2, c3, c4⟩ | (simp (maxDischargeDepth := 6) [go_sem, *]; done)
          clear hK K
          (try simp only [Act.put, List.setIfInBounds_toArray, List.set_cons_zero, List.set_cons_succ])
          refine wpAnyH_ready (rs := [7]) (by kernel_rfl) (by simp) ?_
          refine (AllReadyH.cons (by rw [List.getElem?_toArray]; rfl) (fun K hK => ?_) AllReadyH.nil)
          go_simp
          (have A := Below.nw v (.cells #[.int .i64 x0, .int .i64 x1, .int .i64 x2, .string x3, .int .i64 x4] 30)); (have hvz : jo + 1 ≤ v.heap.size := o0); (have HF : Hid (∀ j u, [Value.int .i64 x0, .int .i64 x1, .int .i64 x2, .string x3, .int .i64 x4][j]? = some u → (v.alloc (.cells #[.int .i64 x0, .int .i64 x1, .int .i64 x2, .string x3, .int .i64 x4] 30)).cell? ((⟨v.heap.size, 0, none⟩ : Addr).add j) = some u) := fun j u hu => five_at v x0 x1 x2 x3 x4 30 j u hu); clear n0 n1 n2 o0 o1 o2 o3 o4; (replace c0 := (A.cell (p := ⟨b, k * 5, none⟩) CS.1).trans c0); (replace c1 := (A.cell (p := ⟨b, k * 5 + 1, none⟩) CS.1).trans c1); (replace c2 := (A.cell (p := ⟨b, k * 5 + 2, none⟩) CS.1).trans c2); (replace c3 := (A.cell (p := ⟨b, k * 5 + 3, none⟩) CS.1).trans c3); (replace c4 := (A.cell (p := ⟨b, k * 5 + 4, none⟩) CS.1).trans c4); (replace N := N.below A); (replace O := O.below A); (replace R1 := R1.below A); (replace R2 := R2.below A); (replace W := World.ownsRow.alloc W (.cells #[.int .i64 x0, .int .i64 x1, .int .i64 x2, .string x3, .int .i64 x4] 30)); (replace CS := CS.below A CS.1); (replace B := B.trans (A.mono B.size)); (have hsz : jo + 1 ≤ (v.alloc (.cells #[.int .i64 x0, .int .i64 x1, .int .i64 x2, .string x3, .int .i64 x4] 30)).heap.size := Nat.le_trans hvz A.size); (have hcsz := CS.1); clear A; (generalize v.alloc (.cells #[.int .i64 x0, .int .i64 x1, .int .i64 x2, .string x3, .int .i64 x4] 30) = v2 at *); (generalize v.heap.size = jv at *); (obtain ⟨n0, n1, n2⟩ := id N); (obtain ⟨o0, o1, o2, o3, o4⟩ := id O)
          refine hK.out _ _ ?_ (fun hHeld => ?_)
          · first | exact ⟨n2, c0, c1, c2, c3, c4⟩ | (simp (maxDischargeDepth := 6) [go_sem, *]; done)
          clear hK K
          (try simp only [Act.put, List.setIfInBounds_toArray, List.set_cons_zero, List.set_cons_succ])
          refine wpAnyH_ready (rs := [8]) (by kernel_rfl) (by simp) ?_
          refine (AllReadyH.cons (by rw [List.getElem?_toArray]; rfl) (fun K hK => ?_) AllReadyH.nil)
          rw [if_pos (by rfl)]; refine wp_append_own _ _ _ 24 rfl (jo + 1) 30 i0 (.agg #[.int .i64 0, .int .i64 0, .int .i64 0, .string ⟨#[]⟩, .int .i64 0]) 5 48 Try.underlying24 hi hz0 hz1 hz2 rfl (by decide) _ _ _ rfl W ⟨jv, 0, none⟩ 1 1 [.int .i64 x0, .int .i64 x1, .int .i64 x2, .string x3, .int .i64 x4] rfl rfl HF.out (five_one _ _ _ _ _) (by unfold maxLen; omega) (by omega) hsz ?_; intro v' wn hown' hgrow _; (have G := grown_belowF W hgrow hsz); clear n0 n1 n2 o0 o1 o2 o3 o4; (replace c0 := (G.cell (p := ⟨b, k * 5, none⟩) hbj).trans c0); (replace c1 := (G.cell (p := ⟨b, k * 5 + 1, none⟩) hbj).trans c1); (replace c2 := (G.cell (p := ⟨b, k * 5 + 2, none⟩) hbj).trans c2); (replace c3 := (G.cell (p := ⟨b, k * 5 + 3, none⟩) hbj).trans c3); (replace c4 := (G.cell (p := ⟨b, k * 5 + 4, none⟩) hbj).trans c4); (replace N := N.belowB G (by omega)); (replace O := O.belowB G (by omega)); (replace R1 := R1.belowB G (by omega)); (replace R2 := R2.belowB G (by omega)); (replace CS := CS.below G hbj); (replace B := B.trans (G.mono (by omega))); rw [HW.out] at hown'; (obtain ⟨a', c', rfl, _, _, _⟩ := ownF_src hown'); clear hgrow HF; (obtain ⟨n0, n1, n2⟩ := id N); (obtain ⟨o0, o1, o2, o3, o4⟩ := id O)
          refine hK.out _ _ ?_ (fun hHeld => ?_)
          · first | exact ⟨n2, c0, c1, c2, c3, c4⟩ | (simp (maxDischargeDepth := 6) [go_sem, *]; done)
          clear hK K
          (try simp only [Act.put, List.setIfInBounds_toArray, List.set_cons_zero, List.set_cons_succ])
          refine wpAnyH_take (i := 9) (v := ?_) (by rw [List.getElem?_toArray]; rfl) (by kernel_rfl) (by kernel_rfl) (by kernel_rfl) (by intro _ _ _ h; exact h) (Or.inl ⟨by rfl, ?_⟩) (by assumption) ?_
          rotate_left
          · (intro w hSw; (try dsimp only at hSw); go_simp; all_goals with_reducible rfl)
          (try simp only [Act.put, List.setIfInBounds_toArray, List.set_cons_zero, List.set_cons_succ])
          refine wpAnyH_ready (rs := [10]) (by kernel_rfl) (by simp) ?_
          refine (AllReadyH.cons (by rw [List.getElem?_toArray]; rfl) (fun K hK => ?_) AllReadyH.nil)
          go_simp
          refine hK.out _ _ ?_ (fun hHeld => ?_)
          · first | exact ⟨n2, c0, c1, c2, c3, c4⟩ | (simp (maxDischargeDepth := 6) [go_sem, *]; done)
          clear hK K
          (try simp only [Act.put, List.setIfInBounds_toArray, List.set_cons_zero, List.set_cons_succ])
          refine wpAnyH_done (by kernel_rfl) ?_ _
          go_wp2_with fail
          have PB := But.one wn jo 1 (.slice a' (q + 1) c')
          go_roundw
          case rel => exact ⟨k + 1, by omega, by go_num, _, O.set1 _, (by rw [HEN.out]; exact own_butF hown' PB (by omega)), N.but PB (by omega), R1.but PB (by omega), R2.but PB (by omega), CS.but PB (by omega), B.trans (PB.below (by omega) B.size)⟩
          case measure => simp [intOf]; omega
        · go_simp
          (have A := Below.nw v (.cells #[.int .i64 x0, .int .i64 x1, .int .i64 x2, .string x3, .int .i64 x4] 30)); (have hvz : jo + 1 ≤ v.heap.size := o0); (have HF : Hid (∀ j u, [Value.int .i64 x0, .int .i64 x1, .int .i64 x2, .string x3, .int .i64 x4][j]? = some u → (v.alloc (.cells #[.int .i64 x0, .int .i64 x1, .int .i64 x2, .string x3, .int .i64 x4] 30)).cell? ((⟨v.heap.size, 0, none⟩ : Addr).add j) = some u) := fun j u hu => five_at v x0 x1 x2 x3 x4 30 j u hu); clear n0 n1 n2 o0 o1 o2 o3 o4; (replace c0 := (A.cell (p := ⟨b, k * 5, none⟩) CS.1).trans c0); (replace c1 := (A.cell (p := ⟨b, k * 5 + 1, none⟩) CS.1).trans c1); (replace c2 := (A.cell (p := ⟨b, k * 5 + 2, none⟩) CS.1).trans c2); (replace c3 := (A.cell (p := ⟨b, k * 5 + 3, none⟩) CS.1).trans c3); (replace c4 := (A.cell (p := ⟨b, k * 5 + 4, none⟩) CS.1).trans c4); (replace N := N.below A); (replace O := O.below A); (replace R1 := R1.below A); (replace R2 := R2.below A); (replace W := World.ownsRow.alloc W (.cells #[.int .i64 x0, .int .i64 x1, .int .i64 x2, .string x3, .int .i64 x4] 30)); (replace CS := CS.below A CS.1); (replace B := B.trans (A.mono B.size)); (have hsz : jo + 1 ≤ (v.alloc (.cells #[.int .i64 x0, .int .i64 x1, .int .i64 x2, .string x3, .int .i64 x4] 30)).heap.size := Nat.le_trans hvz A.size); (have hcsz := CS.1); clear A; (generalize v.alloc (.cells #[.int .i64 x0, .int .i64 x1, .int .i64 x2, .string x3, .int .i64 x4] 30) = v2 at *); (generalize v.heap.size = jv at *); (obtain ⟨n0, n1, n2⟩ := id N); (obtain ⟨o0, o1, o2, o3, o4⟩ := id O)
          refine hK.out _ _ ?_ (fun hHeld => ?_)
          · first | exact ⟨n2, c0, c1, c2, c3, c4⟩ | (simp (maxDischargeDepth := 6) [go_sem, *]; done)
          clear hK K
          (try simp only [Act.put, List.setIfInBounds_toArray, List.set_cons_zero, List.set_cons_succ])
          refine wpAnyH_ready (rs := [1]) (by kernel_rfl) (by simp) ?_
          refine (AllReadyH.cons (by rw [List.getElem?_toArray]; rfl) (fun K hK => ?_) AllReadyH.nil)
          go_simp
          refine hK.out _ _ ?_ (fun hHeld => ?_)
          · first | exact ⟨n2, c0, c1, c2, c3, c4⟩ | (simp (maxDischargeDepth := 6) [go_sem, *]; done)
          clear hK K
          (try simp only [Act.put, List.setIfInBounds_toArray, List.set_cons_zero, List.set_cons_succ])
          refine wpAnyH_ready (rs := [8]) (by kernel_rfl) (by simp) ?_
          refine (AllReadyH.cons (by rw [List.getElem?_toArray]; rfl) (fun K hK => ?_) AllReadyH.nil)
          rw [if_pos (by rfl)]; refine wp_append_own _ _ _ 24 rfl (jo + 1) 30 i0 (.agg #[.int .i64 0, .int .i64 0, .int .i64 0, .string ⟨#[]⟩, .int .i64 0]) 5 48 Try.underlying24 hi hz0 hz1 hz2 rfl (by decide) _ _ _ rfl W ⟨jv, 0, none⟩ 1 1 [.int .i64 x0, .int .i64 x1, .int .i64 x2, .string x3, .int .i64 x4] rfl rfl HF.out (five_one _ _ _ _ _) (by unfold maxLen; omega) (by omega) hsz ?_; intro v' wn hown' hgrow _; (have G := grown_belowF W hgrow hsz); clear n0 n1 n2 o0 o1 o2 o3 o4; (replace c0 := (G.cell (p := ⟨b, k * 5, none⟩) hbj).trans c0); (replace c1 := (G.cell (p := ⟨b, k * 5 + 1, none⟩) hbj).trans c1); (replace c2 := (G.cell (p := ⟨b, k * 5 + 2, none⟩) hbj).trans c2); (replace c3 := (G.cell (p := ⟨b, k * 5 + 3, none⟩) hbj).trans c3); (replace c4 := (G.cell (p := ⟨b, k * 5 + 4, none⟩) hbj).trans c4); (replace N := N.belowB G (by omega)); (replace O := O.belowB G (by omega)); (replace R1 := R1.belowB G (by omega)); (replace R2 := R2.belowB G (by omega)); (replace CS := CS.below G hbj); (replace B := B.trans (G.mono (by omega))); rw [HW.out] at hown'; (obtain ⟨a', c', rfl, _, _, _⟩ := ownF_src hown'); clear hgrow HF; (obtain ⟨n0, n1, n2⟩ := id N); (obtain ⟨o0, o1, o2, o3, o4⟩ := id O)
          refine hK.out _ _ ?_ (fun hHeld => ?_)
          · first | exact ⟨n2, c0, c1, c2, c3, c4⟩ | (simp (maxDischargeDepth := 6) [go_sem, *]; done)
          clear hK K
          (try simp only [Act.put, List.setIfInBounds_toArray, List.set_cons_zero, List.set_cons_succ])
          refine wpAnyH_take (i := 9) (v := ?_) (by rw [List.getElem?_toArray]; rfl) (by kernel_rfl) (by kernel_rfl) (by kernel_rfl) (by intro _ _ _ h; exact h) (Or.inl ⟨by rfl, ?_⟩) (by assumption) ?_
          rotate_left
          · (intro w hSw; (try dsimp only at hSw); go_simp; all_goals with_reducible rfl)
          (try simp only [Act.put, List.setIfInBounds_toArray, List.set_cons_zero, List.set_cons_succ])
          refine wpAnyH_ready (rs := [10]) (by kernel_rfl) (by simp) ?_
          refine (AllReadyH.cons (by rw [List.getElem?_toArray]; rfl) (fun K hK => ?_) AllReadyH.nil)
          go_simp
          refine hK.out _ _ ?_ (fun hHeld => ?_)
          · first | exact ⟨n2, c0, c1, c2, c3, c4⟩ | (simp (maxDischargeDepth := 6) [go_sem, *]; done)
          clear hK K
          (try simp only [Act.put, List.setIfInBounds_toArray, List.set_cons_zero, List.set_cons_succ])
          refine wpAnyH_done (by kernel_rfl) ?_ _
          go_wp2_with fail
          have PB := But.one wn jo 1 (.slice a' (q + 1) c')
          go_roundw
          case rel => exact ⟨k + 1, by omega, by go_num, _, O.set1 _, (by rw [HEN.out]; exact own_butF hown' PB (by omega)), N.but PB (by omega), R1.but PB (by omega), R2.but PB (by omega), CS.but PB (by omega), B.trans (PB.below (by omega) B.size)⟩
          case measure => simp [intOf]; omega
    · have hkn : k = n := by omega
      subst hkn
      have hli : decide ((k : Int) < (k : Int)) = false := decide_eq_false (by omega)
      rw [ct_end hin] at W
      obtain ⟨a', c', rfl, _, _, _⟩ := ownF_src W
      obtain ⟨c0, c1, c2, c3, c4⟩ := CS.elFlight hin HY.out
      rw [Nat.zero_add] at c0 c1 c2 c3 c4
      obtain ⟨r0, r1, r2, r3, r4⟩ := id R1
      obtain ⟨f0, f1, f2, f3, f4, f5, f6, f7, f8, f9, f10⟩ := id R2
      have hli2 : (i : Int) < (k : Int) := by omega
      have PB1 := ((But.refl (w.heap.size + 1) wr).setCell 0 (.int .i64 nx)).setCell 1 (.slice a' (k - 1) c')
      have Z1 := R1.setB (.int .i64 nx) (.slice a' (k - 1) c')
      have Z2 := (R2.but PB1 (by omega)).set5 y0 y1 y2 y3 y4
      have W1 := own_butF W PB1 (by omega)
      have B1 := B.trans (PB1.below (by omega) B.size)
      have PB2 := put5z_but ((wr.setCell ⟨w.heap.size + 1, 0, none⟩ (.int .i64 nx)).setCell ⟨w.heap.size + 1, 1, none⟩ (.slice a' (k - 1) c')) (w.heap.size + 1 + 1) (.int .i64 y0) (.int .i64 y1) (.int .i64 y2) (.string y3) (.int .i64 y4)
      replace Z1 := Z1.but PB2 (by omega)
      have SD := ownB_le (base' := w.heap.size) (own_butF W1 PB2 (by omega)) (by omega)
      have BD := B1.trans (PB2.below (B := w.heap.size) (by omega) B1.size)
      unfold put5z at Z1 Z2 SD BD
      have KZ : Hid (World.ownsRow _ _ _ _ _ _ _ ∧ Below _ _ _) := ⟨SD, BD⟩
      clear SD BD PB1 PB2 W1 B1
      go_wp2_with fail
      go_region
      clear n0 n1 n2 o0 o1 o2 o3 o4 c0 c1 c2 c3 c4 r0 r1 r2 r3 r4 f0 f1 f2 f3 f4 f5 f6 f7 f8 f9 f10 O W N R1 R2 CS B
      generalize ((((((wr.setCell ⟨w.heap.size + 1, 0, none⟩ (.int .i64 nx)).setCell ⟨w.heap.size + 1, 1, none⟩ (.slice a' (k - 1) c')).setCell ⟨w.heap.size + 1 + 1, 0, none⟩ (.int .i64 y0)).setCell ⟨w.heap.size + 1 + 1, 1, none⟩ (.int .i64 y1)).setCell ⟨w.heap.size + 1 + 1, 2, none⟩ (.int .i64 y2)).setCell ⟨w.heap.size + 1 + 1, 3, none⟩ (.string y3)).setCell ⟨w.heap.size + 1 + 1, 4, none⟩ (.int .i64 y4) = wz at *
      obtain ⟨r0, r1, r2, r3, r4⟩ := id Z1
      obtain ⟨f0, f1, f2, f3, f4, f5, f6, f7, f8, f9, f10⟩ := id Z2
      clear Z1 Z2
      go_wp2_with fail
      exact bodyPost_ret (v := .tuple #[.agg #[.int .i64 nx, .slice a' (k - 1) c'], .agg #[.int .i64 y0, .int .i64 y1, .int .i64 y2, .string y3, .int .i64 y4], .int .i64 0]) (by simp (maxDischargeDepth := 6) [results, Try.results7, go_sem, *]) rfl ⟨a', c', rfl, World.ownsRow.drew KZ.out.1, Below.drew KZ.out.2⟩
end Go.Proofs.Ytgfhcilhibbooaa
