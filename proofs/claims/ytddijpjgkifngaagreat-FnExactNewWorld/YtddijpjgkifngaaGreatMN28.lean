/- The contract of impl.mailOf. -/
import Derived.Test.YtddijpjgkifngaaGreatMN0
import Derived.Test.YtddijpjgkifngaaGreatMN27
namespace Go.Proofs.YtddijpjgkifngaaGreat
open Go.RowKit
set_option linter.unusedVariables false
set_option maxRecDepth 100000
set_option maxHeartbeats 16000000
def NB (w : World) (j : Nat) (nx : Int) (a : Option Addr) (n c : Nat) : Prop := j < w.heap.size ∧ w.cell? ⟨j, 0, none⟩ = some (.int .i64 nx) ∧ w.cell? ⟨j, 1, none⟩ = some (.slice a n c)
def MB (w : World) (j : Nat) (u0 u1 u2 : Value) : Prop := j < w.heap.size ∧ w.cell? ⟨j, 0, none⟩ = some u0 ∧ w.cell? ⟨j, 1, none⟩ = some u1 ∧ w.cell? ⟨j, 2, none⟩ = some u2 ∧ w.frozen? ⟨j, 0, none⟩ = false ∧ w.frozen? ⟨j, 1, none⟩ = false ∧ w.frozen? ⟨j, 2, none⟩ = false
theorem NB.below {w w' : World} {j : Nat} {nx : Int} {a : Option Addr} {n c : Nat} (h : NB w j nx a n c) (hb : Below w.heap.size w w') : NB w' j nx a n c :=
 ⟨Nat.lt_of_lt_of_le h.1 hb.size, by rw [hb.cell (p := ⟨j, 0, none⟩) h.1]; exact h.2.1, by rw [hb.cell (p := ⟨j, 1, none⟩) h.1]; exact h.2.2⟩
theorem NB.but {w w' : World} {j q : Nat} {nx : Int} {a : Option Addr} {n c : Nat} (h : NB w j nx a n c) (hb : But q w w') (hq : j ≠ q) : NB w' j nx a n c :=
 ⟨Nat.lt_of_lt_of_le h.1 hb.2.2.2.1, by rw [hb.cell h.1 hq]; exact h.2.1, by rw [hb.cell h.1 hq]; exact h.2.2⟩
theorem NB.drew {w : World} {j : Nat} {nx : Int} {a : Option Addr} {n c : Nat} (h : NB w j nx a n c) : NB w.drew j nx a n c := h
theorem MB.below {w w' : World} {j : Nat} {u0 u1 u2 : Value} (h : MB w j u0 u1 u2) (hb : Below w.heap.size w w') : MB w' j u0 u1 u2 := by
 obtain ⟨h0, h1, h2, h3, h4, h5, h6⟩ := h
 exact ⟨Nat.lt_of_lt_of_le h0 hb.size, by rw [hb.cell (p := ⟨j, 0, none⟩) h0]; exact h1, by rw [hb.cell (p := ⟨j, 1, none⟩) h0]; exact h2, by rw [hb.cell (p := ⟨j, 2, none⟩) h0]; exact h3, by rw [hb.frozen (p := ⟨j, 0, none⟩) h0]; exact h4, by rw [hb.frozen (p := ⟨j, 1, none⟩) h0]; exact h5, by rw [hb.frozen (p := ⟨j, 2, none⟩) h0]; exact h6⟩
theorem MB.but {w w' : World} {j q : Nat} {u0 u1 u2 : Value} (h : MB w j u0 u1 u2) (hb : But q w w') (hq : j ≠ q) : MB w' j u0 u1 u2 := by
 obtain ⟨h0, h1, h2, h3, h4, h5, h6⟩ := h
 exact ⟨Nat.lt_of_lt_of_le h0 hb.2.2.2.1, by rw [hb.cell h0 hq]; exact h1, by rw [hb.cell h0 hq]; exact h2, by rw [hb.cell h0 hq]; exact h3, by rw [hb.frozen h0 hq]; exact h4, by rw [hb.frozen h0 hq]; exact h5, by rw [hb.frozen h0 hq]; exact h6⟩
theorem MB.drew {w : World} {j : Nat} {u0 u1 u2 : Value} (h : MB w j u0 u1 u2) : MB w.drew j u0 u1 u2 := h
theorem MB.new (w : World) (u0 u1 u2 : Value) (T : TypeId) : MB (w.alloc (.cells #[u0, u1, u2] T)) w.heap.size u0 u1 u2 := ⟨by simp, by simp, by simp, by simp, by simp, by simp, by simp⟩
theorem But.one (w : World) (q o : Nat) (u : Value) : But q w (w.setCell ⟨q, o, none⟩ u) := (But.refl q w).setCell o u
theorem NB.new (w : World) (nx : Int) (a : Option Addr) (n c : Nat) (T : TypeId) : NB (w.alloc (.cells #[.int .i64 nx, .slice a n c] T)) w.heap.size nx a n c := ⟨by simp, by simp, by simp⟩
theorem MB.set {w : World} {j : Nat} {u0 u1 u2 : Value} (h : MB w j u0 u1 u2) (a0 a1 a2 : Value) : MB (((w.setCell ⟨j, 0, none⟩ a0).setCell ⟨j, 1, none⟩ a1).setCell ⟨j, 2, none⟩ a2) j a0 a1 a2 := by
 obtain ⟨h0, h1, h2, h3, h4, h5, h6⟩ := h
 have e1 : (w.setCell ⟨j, 0, none⟩ a0).cell? ⟨j, 1, none⟩ = some u1 := (zO (by simp)).trans h2
 have e2 : ((w.setCell ⟨j, 0, none⟩ a0).setCell ⟨j, 1, none⟩ a1).cell? ⟨j, 2, none⟩ = some u2 := (zO (by simp)).trans ((zO (by simp)).trans h3)
 refine ⟨by simpa using h0, ?_, ?_, World.cell?_setCell_same _ _ _ e2, by simpa using h4, by simpa using h5, by simpa using h6⟩
 ·exact (zO (by simp)).trans ((zO (by simp)).trans (World.cell?_setCell_same _ _ _ h1))
 ·exact (zO (by simp)).trans (World.cell?_setCell_same _ _ _ e1)
theorem aK (w : World) (j : Nat) (a0 a1 a2 : Value) : But j w (((w.setCell ⟨j, 0, none⟩ a0).setCell ⟨j, 1, none⟩ a1).setCell ⟨j, 2, none⟩ a2) := (((But.refl j w).setCell 0 a0).setCell 1 a1).setCell 2 a2
theorem But.ofGrown {w w' : World} {q : Nat} (h : w.grownBy w' (some q)) : But q w w' := ⟨h.os, h.tape, h.output, h.size, fun k hk hq => h.block k hk (fun e => hq (by simpa using e))⟩
theorem But.gr {w w' : World} {q : Nat} (h : But q w w') : w.grownBy w' (some q) := ⟨h.1, h.2.1, h.2.2.1, h.2.2.2.1, fun k hk hp => h.2.2.2.2 k hk (fun e => hp (by rw [e]))⟩
theorem aL.but {w w' : World} {b n q : Nat} {F : Int → Option FT} (h : aL w b n F) (hb : But q w w') (hq : b ≠ q) : aL w' b n F := h.kept hb.gr (by simpa using hq)
theorem aL.drew {w : World} {b n : Nat} {F : Int → Option FT} (h : aL w b n F) : aL w.drew b n F := h
theorem ao.but {w w' : World} {b N m q : Nat} {T : TypeId} {F : Nat → Value} (h : ao w b T N m F) (hb : But q w w') (hq : b ≠ q) : ao w' b T N m F := by
 obtain ⟨g, hr, hg⟩ := h
 exact ⟨g, hr.of_block (hb.2.2.2.2 b hr.lt hq), hg⟩
theorem cO.but {w w' : World} {j q : Nat} {x0 x1 x2 : Int} {x3 : ByteArray} {x4 : Int} (h : cO w j x0 x1 x2 x3 x4) (hb : But q w w') (hq : j ≠ q) : cO w' j x0 x1 x2 x3 x4 := by
 obtain ⟨h0, h1, h2, h3, h4, h5⟩ := h
 exact ⟨Nat.lt_of_lt_of_le h0 hb.2.2.2.1, by rw [hb.cell h0 hq]; exact h1, by rw [hb.cell h0 hq]; exact h2, by rw [hb.cell h0 hq]; exact h3, by rw [hb.cell h0 hq]; exact h4, by rw [hb.cell h0 hq]; exact h5⟩
theorem j7 {M : Nat → FT} {k : Nat} {x0 : Int} (e : (M k).1 = x0) (y : Int) : lk M (k + 1) y = if y = x0 then some (M k) else lk M k y := by
 rw [lk]
 by_cases h : y = x0
 ·rw [if_pos h, if_pos (e.trans h.symm)]
 ·rw [if_neg h, if_neg (fun q => h (q.symm.trans e))]
def zml : Value := .agg #[.int .i64 0, .map none, .slice none 0 0]
def idF (M : Nat → FT) (j : Nat) : Value := .int .i64 (M j).1
def Ml (w : World) (base bm br n : Nat) (M : Nat → FT) : Prop := base ≤ bm ∧ base ≤ br ∧ bm ≠ br ∧ aL w bm n (lk M n) ∧ ao w br 3 n n (idF M)
theorem i8 (nx : Int) (a : Option Addr) (n c : Nat) (M : Nat → FT) (w : World) (h : ¬ (0 ≤ nx ∧ nx ≤ 1000000)) :
 Calls Tryz.prog 184 #[.agg #[.int .i64 nx, .slice a n c]] w fun e w' => ∃ V : Value, e = .returned (.tuple #[V, .bool (aH nx M n)]) ∧ (aH nx M n = false → V = zml) ∧ (aH nx M n = true → ∃ bm br, V = .agg #[.int .i64 nx, .map (some bm), .slice (some ⟨br, 0, none⟩) n n] ∧ Ml w' w.heap.size bm br n M) ∧ Below w.heap.size w w' := by
 have HB : Hid (aH nx M n = false) := iL h
 have z1 : (w.alloc (.cells #[.int .i64 nx, .slice a n c] 49)).heap.size = w.heap.size + 1 := by simp
 have N := (NB.new w nx a n c 49).below (Below.nw _ (.cells #[.int .i64 0, .map none, .slice none 0 0] 237))
 have R := MB.new (w.alloc (.cells #[.int .i64 nx, .slice a n c] 49)) (.int .i64 0) (.map none) (.slice none 0 0) 237
 rw [z1] at R
 have B := (Below.nw w (.cells #[.int .i64 nx, .slice a n c] 49)).trans ((Below.nw (w.alloc (.cells #[.int .i64 nx, .slice a n c] 49)) (.cells #[.int .i64 0, .map none, .slice none 0 0] 237)).mono (by simp))
 by_cases h1 : nx < 0
 ·clear h z1
  go_enter Tryz.func184, Tryz.ntmps184
  go_upto_region 2 with fail
  generalize (w.alloc (.cells #[.int .i64 nx, .slice a n c] 49)).alloc (.cells #[.int .i64 0, .map none, .slice none 0 0] 237) = wz at *
  have RQ := R.set (.int .i64 0) (.map none) (.slice none 0 0)
  have BQ : Below w.heap.size w (((wz.setCell ⟨w.heap.size + 1, 0, none⟩ (.int .i64 0)).setCell ⟨w.heap.size + 1, 1, none⟩ (.map none)).setCell ⟨w.heap.size + 1, 2, none⟩ (.slice none 0 0)) := ((B.setCell (by simp) _).setCell (by simp) _).setCell (by simp) _
  obtain ⟨r0, r1, r2, r3, r4, r5, r6⟩ := R
  go_wp2_with fail
  generalize (((wz.setCell ⟨w.heap.size + 1, 0, none⟩ (.int .i64 0)).setCell ⟨w.heap.size + 1, 1, none⟩ (.map none)).setCell ⟨w.heap.size + 1, 2, none⟩ (.slice none 0 0)) = wq at *
  obtain ⟨q0, q1, q2, q3, q4, q5, q6⟩ := RQ
  exact bodyPost_ret (v := .tuple #[.agg #[.int .i64 0, .map none, .slice none 0 0], .bool false]) (by simp (maxDischargeDepth := 6) [results, Tryz.results184, go_sem, q1, q2, q3]) rfl ⟨.agg #[.int .i64 0, .map none, .slice none 0 0], by rw [HB.out], fun _ => rfl, fun h => (by rw [HB.out] at h; cases h), BQ⟩
 ·have h2 : 1000000 < nx := by omega
  clear h z1
  go_enter Tryz.func184, Tryz.ntmps184
  go_upto_region 2 with fail
  generalize (w.alloc (.cells #[.int .i64 nx, .slice a n c] 49)).alloc (.cells #[.int .i64 0, .map none, .slice none 0 0] 237) = wz at *
  have RQ := R.set (.int .i64 0) (.map none) (.slice none 0 0)
  have BQ : Below w.heap.size w (((wz.setCell ⟨w.heap.size + 1, 0, none⟩ (.int .i64 0)).setCell ⟨w.heap.size + 1, 1, none⟩ (.map none)).setCell ⟨w.heap.size + 1, 2, none⟩ (.slice none 0 0)) := ((B.setCell (by simp) _).setCell (by simp) _).setCell (by simp) _
  obtain ⟨r0, r1, r2, r3, r4, r5, r6⟩ := R
  go_wp2_with fail
  generalize (((wz.setCell ⟨w.heap.size + 1, 0, none⟩ (.int .i64 0)).setCell ⟨w.heap.size + 1, 1, none⟩ (.map none)).setCell ⟨w.heap.size + 1, 2, none⟩ (.slice none 0 0)) = wq at *
  obtain ⟨q0, q1, q2, q3, q4, q5, q6⟩ := RQ
  exact bodyPost_ret (v := .tuple #[.agg #[.int .i64 0, .map none, .slice none 0 0], .bool false]) (by simp (maxDischargeDepth := 6) [results, Tryz.results184, go_sem, q1, q2, q3]) rfl ⟨.agg #[.int .i64 0, .map none, .slice none 0 0], by rw [HB.out], fun _ => rfl, fun h => (by rw [HB.out] at h; cases h), BQ⟩
theorem gj (nx : Int) (a : Option Addr) (n c : Nat) (M : Nat → FT) (w : World) (hm : n ≤ maxLen) (h : 0 ≤ nx ∧ nx ≤ 1000000) (hl : ¬ n ≤ 40) :
 Calls Tryz.prog 184 #[.agg #[.int .i64 nx, .slice a n c]] w fun e w' => ∃ V : Value, e = .returned (.tuple #[V, .bool (aH nx M n)]) ∧ (aH nx M n = false → V = zml) ∧ (aH nx M n = true → ∃ bm br, V = .agg #[.int .i64 nx, .map (some bm), .slice (some ⟨br, 0, none⟩) n n] ∧ Ml w' w.heap.size bm br n M) ∧ Below w.heap.size w w' := by
 have HB : Hid (aH nx M n = false) := eB hl
 have z1 : (w.alloc (.cells #[.int .i64 nx, .slice a n c] 49)).heap.size = w.heap.size + 1 := by simp
 have N := (NB.new w nx a n c 49).below (Below.nw _ (.cells #[.int .i64 0, .map none, .slice none 0 0] 237))
 have R := MB.new (w.alloc (.cells #[.int .i64 nx, .slice a n c] 49)) (.int .i64 0) (.map none) (.slice none 0 0) 237
 rw [z1] at R
 have B := (Below.nw w (.cells #[.int .i64 nx, .slice a n c] 49)).trans ((Below.nw (w.alloc (.cells #[.int .i64 nx, .slice a n c] 49)) (.cells #[.int .i64 0, .map none, .slice none 0 0] 237)).mono (by simp))
 unfold maxLen at hm
 have h1 : ¬ nx < 0 := by omega
 have h2 : ¬ 1000000 < nx := by omega
 have h3 : (40 : Int) < (n : Int) := by omega
 clear h z1
 go_enter Tryz.func184, Tryz.ntmps184
 go_upto_region 2 with fail
 generalize (w.alloc (.cells #[.int .i64 nx, .slice a n c] 49)).alloc (.cells #[.int .i64 0, .map none, .slice none 0 0] 237) = wz at *
 have RQ := R.set (.int .i64 0) (.map none) (.slice none 0 0)
 have BQ : Below w.heap.size w (((wz.setCell ⟨w.heap.size + 1, 0, none⟩ (.int .i64 0)).setCell ⟨w.heap.size + 1, 1, none⟩ (.map none)).setCell ⟨w.heap.size + 1, 2, none⟩ (.slice none 0 0)) := ((B.setCell (by simp) _).setCell (by simp) _).setCell (by simp) _
 obtain ⟨r0, r1, r2, r3, r4, r5, r6⟩ := R
 go_wp2_with fail
 generalize (((wz.setCell ⟨w.heap.size + 1, 0, none⟩ (.int .i64 0)).setCell ⟨w.heap.size + 1, 1, none⟩ (.map none)).setCell ⟨w.heap.size + 1, 2, none⟩ (.slice none 0 0)) = wq at *
 obtain ⟨q0, q1, q2, q3, q4, q5, q6⟩ := RQ
 exact bodyPost_ret (v := .tuple #[.agg #[.int .i64 0, .map none, .slice none 0 0], .bool false]) (by simp (maxDischargeDepth := 6) [results, Tryz.results184, go_sem, q1, q2, q3]) rfl ⟨.agg #[.int .i64 0, .map none, .slice none 0 0], by rw [HB.out], fun _ => rfl, fun h => (by rw [HB.out] at h; cases h), BQ⟩
theorem gl (nx : Int) (a : Option Addr) (c : Nat) (M : Nat → FT) (w : World) (h : 0 ≤ nx ∧ nx ≤ 1000000) (n : Nat) (hn : Hid (n = 0)) :
 Calls Tryz.prog 184 #[.agg #[.int .i64 nx, .slice a n c]] w fun e w' => ∃ V : Value, e = .returned (.tuple #[V, .bool (aH nx M n)]) ∧ (aH nx M n = false → V = zml) ∧ (aH nx M n = true → ∃ bm br, V = .agg #[.int .i64 nx, .map (some bm), .slice (some ⟨br, 0, none⟩) n n] ∧ Ml w' w.heap.size bm br n M) ∧ Below w.heap.size w w' := by
 have z1 : (w.alloc (.cells #[.int .i64 nx, .slice a n c] 49)).heap.size = w.heap.size + 1 := by simp
 have N := (NB.new w nx a n c 49).below (Below.nw _ (.cells #[.int .i64 0, .map none, .slice none 0 0] 237))
 have R := MB.new (w.alloc (.cells #[.int .i64 nx, .slice a n c] 49)) (.int .i64 0) (.map none) (.slice none 0 0) 237
 rw [z1] at R
 have B := (Below.nw w (.cells #[.int .i64 nx, .slice a n c] 49)).trans ((Below.nw (w.alloc (.cells #[.int .i64 nx, .slice a n c] 49)) (.cells #[.int .i64 0, .map none, .slice none 0 0] 237)).mono (by simp))
 have h1 : ¬ nx < 0 := by omega
 have h2 : ¬ 1000000 < nx := by omega
 have hn40 : n ≤ 40 := by have := hn.out; omega
 have h3 : ¬ (40 : Int) < (n : Int) := by omega
 have hmm := eE n
 have hmr0 := de n (by omega)
 have HNX : Hid (0 ≤ nx ∧ nx ≤ 1000000) := h
 clear h z1
 go_enter Tryz.func184, Tryz.ntmps184
 go_upto_region 3 with fail
 generalize (w.alloc (.cells #[.int .i64 nx, .slice a n c] 49)).alloc (.cells #[.int .i64 0, .map none, .slice none 0 0] 237) = wz at *
 obtain ⟨n0, n1, n2⟩ := id N
 go_cut [4] (fun s4 wx => ∃ bx bm br : Nat, s4 = .pointer (some ⟨bx, 0, none⟩) ∧ w.heap.size + 1 < bx ∧ w.heap.size + 1 < bm ∧ w.heap.size + 1 < br ∧ bx ≠ bm ∧ bx ≠ br ∧ bm ≠ br ∧ MB wx bx (.int .i64 nx) (.map (some bm)) (.slice (some ⟨br, 0, none⟩) n n) ∧ aL wx bm 0 (fun _ => none) ∧ ao wx br 3 n 0 (idF M) ∧ NB wx w.heap.size nx a n c ∧ MB wx (w.heap.size + 1) (.int .i64 0) (.map none) (.slice none 0 0) ∧ Below w.heap.size w wx)
 case first =>
  refine wp_region_held_drew (S := (fun w' => w'.cell? ⟨w.heap.size, 0, none⟩ = some (.int .i64 nx) ∧ w'.cell? ⟨w.heap.size, 1, none⟩ = some (.slice a n c))) (by kernel_rfl) ?_ (fun hHeld => ?_)
  ·first | exact ⟨n1, n2⟩ | (simp (maxDischargeDepth := 6) [go_sem, *]; done)
  clear n0 n1 n2
  replace N := N.drew
  replace R := R.drew
  replace B := Below.drew B
  have hR0 : w.heap.size + 1 < wz.drew.heap.size := R.1
  generalize wz.drew = v0 at *
  obtain ⟨n0, n1, n2⟩ := id N
  refine zT4 0 ?_
  refine zTk 4 ?_
  refine zT2 6 ?_
  refine zTk 8 ?_
  refine wpAnyH_ready (rs := [5, 9, 11]) (by kernel_rfl) (by simp) ?_
  refine (zCc (fun K hK => ?_) (zCc (fun K hK => ?_) (zR fun K hK => ?_)))
  ·go_simp
   (have A := Below.nw v0 (.map #[] 0)); (have MP := aL.made v0); (replace N := N.below A); (replace R := R.below A); (have hlt0 : v0.heap.size < (v0.alloc (.map #[] 0)).heap.size := by simp); (replace B := B.trans (A.mono B.size)); clear A n0 n1 n2; (generalize v0.alloc (.map #[] 0) = v1 at *); obtain ⟨n0, n1, n2⟩ := id N
   refine hK.out _ _ ?_ (fun hHeld => ?_)
   ·first | exact ⟨n1, n2⟩ | (simp (maxDischargeDepth := 6) [go_sem, *]; done)
   clear hK K
   (try simp only [zA])
   refine wpAnyH_ready (rs := [9, 11]) (by kernel_rfl) (by simp) ?_
   refine (zCc (fun K hK => ?_) (zR fun K hK => ?_))
   ·go_simp
    (have A := Below.nw v1 (am n)); (replace MP := MP.below A); (have RW := aM v1 n (idF M)); (replace N := N.below A); (replace R := R.below A); (have hlt1 : v1.heap.size < (v1.alloc (am n)).heap.size := by simp); (replace B := B.trans (A.mono B.size)); clear A n0 n1 n2; (generalize v1.alloc (am n) = v2 at *); obtain ⟨n0, n1, n2⟩ := id N
    refine hK.out _ _ ?_ (fun hHeld => ?_)
    ·first | exact ⟨n1, n2⟩ | (simp (maxDischargeDepth := 6) [go_sem, *]; done)
    clear hK K
    (try simp only [zA])
    refine zTk 10 ?_
    refine zQ 11 fun K hK => ?_
    go_simp
    (have A := Below.nw v2 (.cells #[.int .i64 0, .map none, .slice none 0 0] 237)); (replace MP := MP.below A); (replace RW := ao.below' A RW); (have X := MB.new v2 (.int .i64 0) (.map none) (.slice none 0 0) 237); (replace N := N.below A); (replace R := R.below A); (have hlt2 : v2.heap.size < (v2.alloc (.cells #[.int .i64 0, .map none, .slice none 0 0] 237)).heap.size := by simp); (replace B := B.trans (A.mono B.size)); clear A n0 n1 n2; (generalize v2.alloc (.cells #[.int .i64 0, .map none, .slice none 0 0] 237) = v3 at *); obtain ⟨n0, n1, n2⟩ := id N; have k0 : _ ∧ _ := X
    refine hK.out _ _ ?_ (fun hHeld => ?_)
    ·first | exact ⟨n1, n2⟩ | (simp (maxDischargeDepth := 6) [go_sem, *]; done)
    clear hK K
    (try simp only [zA])
    refine zQ 12 fun K hK => ?_
    go_simp
    refine hK.out _ _ ?_ (fun hHeld => ?_)
    ·first | exact ⟨n1, n2⟩ | (simp (maxDischargeDepth := 6) [go_sem, *]; done)
    clear hK K
    (try simp only [zA])
    refine wpAnyH_done (by kernel_rfl) ?_ _
    go_wp2_with fail
    go_meet
    case rel =>
     have PB := aK v3 (v2.heap.size) (.int .i64 nx) (.map (some (v0.heap.size))) (.slice (some ⟨v1.heap.size, 0, none⟩) n n)
     have l0 := R.1
     exact ⟨v2.heap.size, v0.heap.size, v1.heap.size, rfl, by omega, by omega, by omega, by omega, by omega, by omega, X.set _ _ _, MP.but PB (by omega), RW.but PB (by omega), N.but PB (by omega), R.but PB (by omega), B.trans (PB.below (by omega) B.size)⟩
   ·go_simp
    (have A := Below.nw v1 (.cells #[.int .i64 0, .map none, .slice none 0 0] 237)); (replace MP := MP.below A); (have X := MB.new v1 (.int .i64 0) (.map none) (.slice none 0 0) 237); (replace N := N.below A); (replace R := R.below A); (have hlt1 : v1.heap.size < (v1.alloc (.cells #[.int .i64 0, .map none, .slice none 0 0] 237)).heap.size := by simp); (replace B := B.trans (A.mono B.size)); clear A n0 n1 n2; (generalize v1.alloc (.cells #[.int .i64 0, .map none, .slice none 0 0] 237) = v2 at *); obtain ⟨n0, n1, n2⟩ := id N
    refine hK.out _ _ ?_ (fun hHeld => ?_)
    ·first | exact ⟨n1, n2⟩ | (simp (maxDischargeDepth := 6) [go_sem, *]; done)
    clear hK K
    (try simp only [zA])
    refine zQ 9 fun K hK => ?_
    go_simp
    (have A := Below.nw v2 (am n)); (replace MP := MP.below A); (replace X := X.below A); (have RW := aM v2 n (idF M)); (replace N := N.below A); (replace R := R.below A); (have hlt2 : v2.heap.size < (v2.alloc (am n)).heap.size := by simp); (replace B := B.trans (A.mono B.size)); clear A n0 n1 n2; (generalize v2.alloc (am n) = v3 at *); obtain ⟨n0, n1, n2⟩ := id N; have k0 : _ ∧ _ := X
    refine hK.out _ _ ?_ (fun hHeld => ?_)
    ·first | exact ⟨n1, n2⟩ | (simp (maxDischargeDepth := 6) [go_sem, *]; done)
    clear hK K
    (try simp only [zA])
    refine zTk 10 ?_
    refine zQ 12 fun K hK => ?_
    go_simp
    refine hK.out _ _ ?_ (fun hHeld => ?_)
    ·first | exact ⟨n1, n2⟩ | (simp (maxDischargeDepth := 6) [go_sem, *]; done)
    clear hK K
    (try simp only [zA])
    refine wpAnyH_done (by kernel_rfl) ?_ _
    go_wp2_with fail
    go_meet
    case rel =>
     have PB := aK v3 (v1.heap.size) (.int .i64 nx) (.map (some (v0.heap.size))) (.slice (some ⟨v2.heap.size, 0, none⟩) n n)
     have l0 := R.1
     exact ⟨v1.heap.size, v0.heap.size, v2.heap.size, rfl, by omega, by omega, by omega, by omega, by omega, by omega, X.set _ _ _, MP.but PB (by omega), RW.but PB (by omega), N.but PB (by omega), R.but PB (by omega), B.trans (PB.below (by omega) B.size)⟩
  ·go_simp
   (have A := Below.nw v0 (am n)); (have RW := aM v0 n (idF M)); (replace N := N.below A); (replace R := R.below A); (have hlt0 : v0.heap.size < (v0.alloc (am n)).heap.size := by simp); (replace B := B.trans (A.mono B.size)); clear A n0 n1 n2; (generalize v0.alloc (am n) = v1 at *); obtain ⟨n0, n1, n2⟩ := id N
   refine hK.out _ _ ?_ (fun hHeld => ?_)
   ·first | exact ⟨n1, n2⟩ | (simp (maxDischargeDepth := 6) [go_sem, *]; done)
   clear hK K
   (try simp only [zA])
   refine wpAnyH_ready (rs := [5, 11]) (by kernel_rfl) (by simp) ?_
   refine (zCc (fun K hK => ?_) (zR fun K hK => ?_))
   ·go_simp
    (have A := Below.nw v1 (.map #[] 0)); (replace RW := ao.below' A RW); (have MP := aL.made v1); (replace N := N.below A); (replace R := R.below A); (have hlt1 : v1.heap.size < (v1.alloc (.map #[] 0)).heap.size := by simp); (replace B := B.trans (A.mono B.size)); clear A n0 n1 n2; (generalize v1.alloc (.map #[] 0) = v2 at *); obtain ⟨n0, n1, n2⟩ := id N
    refine hK.out _ _ ?_ (fun hHeld => ?_)
    ·first | exact ⟨n1, n2⟩ | (simp (maxDischargeDepth := 6) [go_sem, *]; done)
    clear hK K
    (try simp only [zA])
    refine zTk 10 ?_
    refine zQ 11 fun K hK => ?_
    go_simp
    (have A := Below.nw v2 (.cells #[.int .i64 0, .map none, .slice none 0 0] 237)); (replace RW := ao.below' A RW); (replace MP := MP.below A); (have X := MB.new v2 (.int .i64 0) (.map none) (.slice none 0 0) 237); (replace N := N.below A); (replace R := R.below A); (have hlt2 : v2.heap.size < (v2.alloc (.cells #[.int .i64 0, .map none, .slice none 0 0] 237)).heap.size := by simp); (replace B := B.trans (A.mono B.size)); clear A n0 n1 n2; (generalize v2.alloc (.cells #[.int .i64 0, .map none, .slice none 0 0] 237) = v3 at *); obtain ⟨n0, n1, n2⟩ := id N; have k0 : _ ∧ _ := X
    refine hK.out _ _ ?_ (fun hHeld => ?_)
    ·first | exact ⟨n1, n2⟩ | (simp (maxDischargeDepth := 6) [go_sem, *]; done)
    clear hK K
    (try simp only [zA])
    refine zQ 12 fun K hK => ?_
    go_simp
    refine hK.out _ _ ?_ (fun hHeld => ?_)
    ·first | exact ⟨n1, n2⟩ | (simp (maxDischargeDepth := 6) [go_sem, *]; done)
    clear hK K
    (try simp only [zA])
    refine wpAnyH_done (by kernel_rfl) ?_ _
    go_wp2_with fail
    go_meet
    case rel =>
     have PB := aK v3 (v2.heap.size) (.int .i64 nx) (.map (some (v1.heap.size))) (.slice (some ⟨v0.heap.size, 0, none⟩) n n)
     have l0 := R.1
     exact ⟨v2.heap.size, v1.heap.size, v0.heap.size, rfl, by omega, by omega, by omega, by omega, by omega, by omega, X.set _ _ _, MP.but PB (by omega), RW.but PB (by omega), N.but PB (by omega), R.but PB (by omega), B.trans (PB.below (by omega) B.size)⟩
   ·go_simp
    (have A := Below.nw v1 (.cells #[.int .i64 0, .map none, .slice none 0 0] 237)); (replace RW := ao.below' A RW); (have X := MB.new v1 (.int .i64 0) (.map none) (.slice none 0 0) 237); (replace N := N.below A); (replace R := R.below A); (have hlt1 : v1.heap.size < (v1.alloc (.cells #[.int .i64 0, .map none, .slice none 0 0] 237)).heap.size := by simp); (replace B := B.trans (A.mono B.size)); clear A n0 n1 n2; (generalize v1.alloc (.cells #[.int .i64 0, .map none, .slice none 0 0] 237) = v2 at *); obtain ⟨n0, n1, n2⟩ := id N
    refine hK.out _ _ ?_ (fun hHeld => ?_)
    ·first | exact ⟨n1, n2⟩ | (simp (maxDischargeDepth := 6) [go_sem, *]; done)
    clear hK K
    (try simp only [zA])
    refine zQ 5 fun K hK => ?_
    go_simp
    (have A := Below.nw v2 (.map #[] 0)); (replace RW := ao.below' A RW); (replace X := X.below A); (have MP := aL.made v2); (replace N := N.below A); (replace R := R.below A); (have hlt2 : v2.heap.size < (v2.alloc (.map #[] 0)).heap.size := by simp); (replace B := B.trans (A.mono B.size)); clear A n0 n1 n2; (generalize v2.alloc (.map #[] 0) = v3 at *); obtain ⟨n0, n1, n2⟩ := id N; have k0 : _ ∧ _ := X
    refine hK.out _ _ ?_ (fun hHeld => ?_)
    ·first | exact ⟨n1, n2⟩ | (simp (maxDischargeDepth := 6) [go_sem, *]; done)
    clear hK K
    (try simp only [zA])
    refine zTk 10 ?_
    refine zQ 12 fun K hK => ?_
    go_simp
    refine hK.out _ _ ?_ (fun hHeld => ?_)
    ·first | exact ⟨n1, n2⟩ | (simp (maxDischargeDepth := 6) [go_sem, *]; done)
    clear hK K
    (try simp only [zA])
    refine wpAnyH_done (by kernel_rfl) ?_ _
    go_wp2_with fail
    go_meet
    case rel =>
     have PB := aK v3 (v1.heap.size) (.int .i64 nx) (.map (some (v2.heap.size))) (.slice (some ⟨v0.heap.size, 0, none⟩) n n)
     have l0 := R.1
     exact ⟨v1.heap.size, v2.heap.size, v0.heap.size, rfl, by omega, by omega, by omega, by omega, by omega, by omega, X.set _ _ _, MP.but PB (by omega), RW.but PB (by omega), N.but PB (by omega), R.but PB (by omega), B.trans (PB.below (by omega) B.size)⟩
  ·go_simp
   (have A := Below.nw v0 (.cells #[.int .i64 0, .map none, .slice none 0 0] 237)); (have X := MB.new v0 (.int .i64 0) (.map none) (.slice none 0 0) 237); (replace N := N.below A); (replace R := R.below A); (have hlt0 : v0.heap.size < (v0.alloc (.cells #[.int .i64 0, .map none, .slice none 0 0] 237)).heap.size := by simp); (replace B := B.trans (A.mono B.size)); clear A n0 n1 n2; (generalize v0.alloc (.cells #[.int .i64 0, .map none, .slice none 0 0] 237) = v1 at *); obtain ⟨n0, n1, n2⟩ := id N
   refine hK.out _ _ ?_ (fun hHeld => ?_)
   ·first | exact ⟨n1, n2⟩ | (simp (maxDischargeDepth := 6) [go_sem, *]; done)
   clear hK K
   (try simp only [zA])
   refine wpAnyH_ready (rs := [5, 9]) (by kernel_rfl) (by simp) ?_
   refine (zCc (fun K hK => ?_) (zR fun K hK => ?_))
   ·go_simp
    (have A := Below.nw v1 (.map #[] 0)); (replace X := X.below A); (have MP := aL.made v1); (replace N := N.below A); (replace R := R.below A); (have hlt1 : v1.heap.size < (v1.alloc (.map #[] 0)).heap.size := by simp); (replace B := B.trans (A.mono B.size)); clear A n0 n1 n2; (generalize v1.alloc (.map #[] 0) = v2 at *); obtain ⟨n0, n1, n2⟩ := id N
    refine hK.out _ _ ?_ (fun hHeld => ?_)
    ·first | exact ⟨n1, n2⟩ | (simp (maxDischargeDepth := 6) [go_sem, *]; done)
    clear hK K
    (try simp only [zA])
    refine zQ 9 fun K hK => ?_
    go_simp
    (have A := Below.nw v2 (am n)); (replace X := X.below A); (replace MP := MP.below A); (have RW := aM v2 n (idF M)); (replace N := N.below A); (replace R := R.below A); (have hlt2 : v2.heap.size < (v2.alloc (am n)).heap.size := by simp); (replace B := B.trans (A.mono B.size)); clear A n0 n1 n2; (generalize v2.alloc (am n) = v3 at *); obtain ⟨n0, n1, n2⟩ := id N; have k0 : _ ∧ _ := X
    refine hK.out _ _ ?_ (fun hHeld => ?_)
    ·first | exact ⟨n1, n2⟩ | (simp (maxDischargeDepth := 6) [go_sem, *]; done)
    clear hK K
    (try simp only [zA])
    refine zTk 10 ?_
    refine zQ 12 fun K hK => ?_
    go_simp
    refine hK.out _ _ ?_ (fun hHeld => ?_)
    ·first | exact ⟨n1, n2⟩ | (simp (maxDischargeDepth := 6) [go_sem, *]; done)
    clear hK K
    (try simp only [zA])
    refine wpAnyH_done (by kernel_rfl) ?_ _
    go_wp2_with fail
    go_meet
    case rel =>
     have PB := aK v3 (v0.heap.size) (.int .i64 nx) (.map (some (v1.heap.size))) (.slice (some ⟨v2.heap.size, 0, none⟩) n n)
     have l0 := R.1
     exact ⟨v0.heap.size, v1.heap.size, v2.heap.size, rfl, by omega, by omega, by omega, by omega, by omega, by omega, X.set _ _ _, MP.but PB (by omega), RW.but PB (by omega), N.but PB (by omega), R.but PB (by omega), B.trans (PB.below (by omega) B.size)⟩
   ·go_simp
    (have A := Below.nw v1 (am n)); (replace X := X.below A); (have RW := aM v1 n (idF M)); (replace N := N.below A); (replace R := R.below A); (have hlt1 : v1.heap.size < (v1.alloc (am n)).heap.size := by simp); (replace B := B.trans (A.mono B.size)); clear A n0 n1 n2; (generalize v1.alloc (am n) = v2 at *); obtain ⟨n0, n1, n2⟩ := id N
    refine hK.out _ _ ?_ (fun hHeld => ?_)
    ·first | exact ⟨n1, n2⟩ | (simp (maxDischargeDepth := 6) [go_sem, *]; done)
    clear hK K
    (try simp only [zA])
    refine zQ 5 fun K hK => ?_
    go_simp
    (have A := Below.nw v2 (.map #[] 0)); (replace X := X.below A); (replace RW := ao.below' A RW); (have MP := aL.made v2); (replace N := N.below A); (replace R := R.below A); (have hlt2 : v2.heap.size < (v2.alloc (.map #[] 0)).heap.size := by simp); (replace B := B.trans (A.mono B.size)); clear A n0 n1 n2; (generalize v2.alloc (.map #[] 0) = v3 at *); obtain ⟨n0, n1, n2⟩ := id N; have k0 : _ ∧ _ := X
    refine hK.out _ _ ?_ (fun hHeld => ?_)
    ·first | exact ⟨n1, n2⟩ | (simp (maxDischargeDepth := 6) [go_sem, *]; done)
    clear hK K
    (try simp only [zA])
    refine zTk 10 ?_
    refine zQ 12 fun K hK => ?_
    go_simp
    refine hK.out _ _ ?_ (fun hHeld => ?_)
    ·first | exact ⟨n1, n2⟩ | (simp (maxDischargeDepth := 6) [go_sem, *]; done)
    clear hK K
    (try simp only [zA])
    refine wpAnyH_done (by kernel_rfl) ?_ _
    go_wp2_with fail
    go_meet
    case rel =>
     have PB := aK v3 (v0.heap.size) (.int .i64 nx) (.map (some (v2.heap.size))) (.slice (some ⟨v1.heap.size, 0, none⟩) n n)
     have l0 := R.1
     exact ⟨v0.heap.size, v2.heap.size, v1.heap.size, rfl, by omega, by omega, by omega, by omega, by omega, by omega, X.set _ _ _, MP.but PB (by omega), RW.but PB (by omega), N.but PB (by omega), R.but PB (by omega), B.trans (PB.below (by omega) B.size)⟩
 case rest =>
  obtain ⟨bx, bm, br, rfl, hbx, hbm, hbr, hxm, hxr, hmr, X, MP, RW, N', R', B'⟩ := hcut
  clear N R B hmm hmr0
  have N := N'
  have R := R'
  have B := B'
  clear N' R' B'
  obtain rfl := hn.out
  have HG : Hid (aH nx M 0 = true) := df HNX.out (by omega) rfl
  obtain ⟨n0, n1, n2⟩ := id N
  go_wp2_with fail
  go_loopw [38] (fun i wr => i = .int .i64 0 ∧ wc = wr) (fun i _ => 0)
  case atStart => exact ⟨rfl, by first | rfl | trivial⟩
  case round =>
   obtain ⟨rfl, rfl⟩ := hrel
   replace MP : aL wc bm 0 (lk M 0) := MP
   have RQ := R.set (.int .i64 nx) (.map (some bm)) (.slice (some ⟨br, 0, none⟩) 0 0)
   have PB := aK wc (w.heap.size + 1) (.int .i64 nx) (.map (some bm)) (.slice (some ⟨br, 0, none⟩) 0 0)
   have MQ : Ml (((wc.setCell ⟨w.heap.size + 1, 0, none⟩ (.int .i64 nx)).setCell ⟨w.heap.size + 1, 1, none⟩ (.map (some bm))).setCell ⟨w.heap.size + 1, 2, none⟩ (.slice (some ⟨br, 0, none⟩) 0 0)) w.heap.size bm br 0 M := ⟨by omega, by omega, hmr, MP.but PB (by omega), RW.but PB (by omega)⟩
   have BQ := B.trans (PB.below (B := w.heap.size) (by omega) B.size)
   obtain ⟨r0, r1, r2, r3, r4, r5, r6⟩ := R
   obtain ⟨y0, y1, y2, y3, -, -, -⟩ := X
   go_wp2_with fail
   clear MP RW
   generalize (((wc.setCell ⟨w.heap.size + 1, 0, none⟩ (.int .i64 nx)).setCell ⟨w.heap.size + 1, 1, none⟩ (.map (some bm))).setCell ⟨w.heap.size + 1, 2, none⟩ (.slice (some ⟨br, 0, none⟩) 0 0)) = wq at *
   obtain ⟨q0, q1, q2, q3, q4, q5, q6⟩ := RQ
   exact bodyPost_ret (v := .tuple #[.agg #[.int .i64 nx, .map (some bm), .slice (some ⟨br, 0, none⟩) 0 0], .bool true]) (by simp (maxDischargeDepth := 6) [results, Tryz.results184, go_sem, q1, q2, q3]) rfl ⟨.agg #[.int .i64 nx, .map (some bm), .slice (some ⟨br, 0, none⟩) 0 0], by rw [HG.out], fun h => (by rw [HG.out] at h; cases h), fun _ => ⟨bm, br, rfl, MQ⟩, BQ⟩
end Go.Proofs.YtddijpjgkifngaaGreat
