/- Contracts of the mail: at, take. -/
import Derived.Test.YtfdcjfebfbpliaaN62
import Derived.Deep.RegionHeld3
import Derived.Deep.DeepCutAuto
import Derived.Laws.CopyOwn
import Derived.WalkKit
import Derived.WalkSpells
import Derived.WalkLawsBesides
import Derived.Deep.RegionHeld
namespace Go.Proofs.Ytfdcjfebfbpliaa
open Go.RowKit
set_option linter.unusedVariables false
def F5 (w : World) (j : Nat) (x0 x1 x2 : Int) (x3 : ByteArray) (x4 : Int) : Prop := j < w.heap.size ∧ w.cell? ⟨j, 0, none⟩ = some (.int .i64 x0) ∧ w.cell? ⟨j, 1, none⟩ = some (.int .i64 x1) ∧ w.cell? ⟨j, 2, none⟩ = some (.int .i64 x2) ∧ w.cell? ⟨j, 3, none⟩ = some (.string x3) ∧ w.cell? ⟨j, 4, none⟩ = some (.int .i64 x4) ∧ w.frozen? ⟨j, 0, none⟩ = false ∧ w.frozen? ⟨j, 1, none⟩ = false ∧ w.frozen? ⟨j, 2, none⟩ = false ∧ w.frozen? ⟨j, 3, none⟩ = false ∧ w.frozen? ⟨j, 4, none⟩ = false
theorem F5.belowB {w w' : World} {B j : Nat} {x0 x1 x2 : Int} {x3 : ByteArray} {x4 : Int} (h : F5 w j x0 x1 x2 x3 x4) (hb : Below B w w') (hj : j < B) : F5 w' j x0 x1 x2 x3 x4 := by
  obtain ⟨h0, c0, c1, c2, c3, c4, f0, f1, f2, f3, f4⟩ := h
  exact ⟨Nat.lt_of_lt_of_le h0 hb.size, by rw [hb.cell (p := ⟨j, 0, none⟩) hj]; exact c0, by rw [hb.cell (p := ⟨j, 1, none⟩) hj]; exact c1, by rw [hb.cell (p := ⟨j, 2, none⟩) hj]; exact c2, by rw [hb.cell (p := ⟨j, 3, none⟩) hj]; exact c3, by rw [hb.cell (p := ⟨j, 4, none⟩) hj]; exact c4, by rw [hb.frozen (p := ⟨j, 0, none⟩) hj]; exact f0, by rw [hb.frozen (p := ⟨j, 1, none⟩) hj]; exact f1, by rw [hb.frozen (p := ⟨j, 2, none⟩) hj]; exact f2, by rw [hb.frozen (p := ⟨j, 3, none⟩) hj]; exact f3, by rw [hb.frozen (p := ⟨j, 4, none⟩) hj]; exact f4⟩
theorem F5.below {w w' : World} {j : Nat} {x0 x1 x2 : Int} {x3 : ByteArray} {x4 : Int} (h : F5 w j x0 x1 x2 x3 x4) (hb : Below w.heap.size w w') : F5 w' j x0 x1 x2 x3 x4 := h.belowB hb h.1
theorem F5.but {w w' : World} {j q : Nat} {x0 x1 x2 : Int} {x3 : ByteArray} {x4 : Int} (h : F5 w j x0 x1 x2 x3 x4) (hb : But q w w') (hq : j ≠ q) : F5 w' j x0 x1 x2 x3 x4 := by
  obtain ⟨h0, c0, c1, c2, c3, c4, f0, f1, f2, f3, f4⟩ := h
  exact ⟨Nat.lt_of_lt_of_le h0 hb.2.2.2.1, by rw [hb.cell h0 hq]; exact c0, by rw [hb.cell h0 hq]; exact c1, by rw [hb.cell h0 hq]; exact c2, by rw [hb.cell h0 hq]; exact c3, by rw [hb.cell h0 hq]; exact c4, by rw [hb.frozen h0 hq]; exact f0, by rw [hb.frozen h0 hq]; exact f1, by rw [hb.frozen h0 hq]; exact f2, by rw [hb.frozen h0 hq]; exact f3, by rw [hb.frozen h0 hq]; exact f4⟩
theorem F5.drew {w : World} {j : Nat} {x0 x1 x2 : Int} {x3 : ByteArray} {x4 : Int} (h : F5 w j x0 x1 x2 x3 x4) : F5 w.drew j x0 x1 x2 x3 x4 := h
theorem F5.new (w : World) (x0 x1 x2 : Int) (x3 : ByteArray) (x4 : Int) (T : TypeId) : F5 (w.alloc (.cells #[.int .i64 x0, .int .i64 x1, .int .i64 x2, .string x3, .int .i64 x4] T)) w.heap.size x0 x1 x2 x3 x4 := ⟨by simp, by simp, by simp, by simp, by simp, by simp, by simp, by simp, by simp, by simp, by simp⟩
set_option maxRecDepth 100000 in
set_option maxHeartbeats 4000000 in
theorem mailAt_any (nx : Int) (bm br n q i : Nat) (F : Int → Option FT) (x0 x1 x2 : Int) (x3 : ByteArray) (x4 : Int) (w : World) (hn : n ≤ 40) (hi : i < n) (hM : MapI w bm q F) (hbr : br < w.heap.size) (hR : w.cell? ⟨br, i, none⟩ = some (.int .i64 x0)) (hw : (Lit.int .i64 x0).wf = true) (hF : F x0 = some (x0, x1, x2, x3, x4)) :
    Calls Try.prog 27 #[.agg #[.int .i64 nx, .map (some bm), .slice (some ⟨br, 0, none⟩) n n], .int .i64 i] w fun e w' => e = .returned (.agg #[.int .i64 x0, .int .i64 x1, .int .i64 x2, .string x3, .int .i64 x4]) ∧ Below w.heap.size w w' := by
  have A1 := Below.nw w (.cells #[.int .i64 nx, .map (some bm), .slice (some ⟨br, 0, none⟩) n n] 44)
  have A2 := A1.alloc A1.size (.cells #[.int .i64 0, .int .i64 0, .int .i64 0, .string ⟨#[]⟩, .int .i64 0] 30)
  have X := (MB.new w (.int .i64 nx) (.map (some bm)) (.slice (some ⟨br, 0, none⟩) n n) 44).below (Below.nw _ (.cells #[.int .i64 0, .int .i64 0, .int .i64 0, .string ⟨#[]⟩, .int .i64 0] 30))
  have R := F5.new (w.alloc (.cells #[.int .i64 nx, .map (some bm), .slice (some ⟨br, 0, none⟩) n n] 44)) 0 0 0 ⟨#[]⟩ 0 30
  have MP := hM.below A2
  have ci := (A2.cell (p := ⟨br, i, none⟩) hbr).trans hR
  simp only [World.size_alloc] at R
  have hli : (i : Int) < (n : Int) := by omega
  clear hM hR A1
  obtain ⟨k0, k1, k2, k3, _, _, _⟩ := id X
  obtain ⟨r0, r1, r2, r3, r4, r5, r6, r7, r8, r9, r10⟩ := id R
  go_enter Try.func27, Try.ntmps27
  go_wp2_with fail
  generalize (w.alloc (.cells #[.int .i64 nx, .map (some bm), .slice (some ⟨br, 0, none⟩) n n] 44)).alloc (.cells #[.int .i64 0, .int .i64 0, .int .i64 0, .string ⟨#[]⟩, .int .i64 0] 30) = v at *
  have hlk : (Instr.lookup 42 (.map (some bm)) (.int .i64 x0) false).run Try.prog v.drew = .ok (.agg #[.int .i64 x0, .int .i64 x1, .int .i64 x2, .string x3, .int .i64 x4]) v.drew := by
    have h := (MP.drew).look hw
    rw [hF] at h
    exact h
  clear MP hF
  go_region
  all_goals go_wp2_with fail
  all_goals exact bodyPost_ret (v := .agg #[.int .i64 x0, .int .i64 x1, .int .i64 x2, .string x3, .int .i64 x4]) (by simp (maxDischargeDepth := 6) [results, Try.results27, go_sem, *]) rfl ⟨rfl, by repeat (first | exact A2 | refine Below.drew ?_ | refine Below.setCell ?_ (by first | (simp; done) | (simp; omega) | omega) _)⟩
end Go.Proofs.Ytfdcjfebfbpliaa
