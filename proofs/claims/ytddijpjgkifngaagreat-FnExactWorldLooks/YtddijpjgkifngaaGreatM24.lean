/- Rows of flights: what the laws make of them, and whether two are the same. Nets: what the laws make of them. How great a net is, from any number on. -/
import Derived.Test.YtddijpjgkifngaaGreatM0
import Derived.Test.YtddijpjgkifngaaGreatM6
namespace Go.Proofs.YtddijpjgkifngaaGreat
open Go.RowKit
set_option linter.unusedVariables false
def MCFlight (M : FT) : Nat → Value
 | 0 => .int .i64 M.1
 | 1 => .int .i64 M.2.1
 | 2 => .int .i64 M.2.2.1
 | 3 => .string M.2.2.2.1
 | _ => .int .i64 M.2.2.2.2
def MFFlight (M : Nat → FT) (c : Nat) : Value := MCFlight (M (c / 5)) (c % 5)
theorem MFFlight_at (M : Nat → FT) (k j : Nat) (hj : j < 5) : MFFlight M (k * 5 + j) = MCFlight (M k) j := by
 have h1 : (k * 5 + j) / 5 = k := by omega
 have h2 : (k * 5 + j) % 5 = j := by omega
 rw [MFFlight, h1, h2]
theorem MFFlight_vals {M : Nat → FT} {k : Nat} {x0 : Int} {x1 : Int} {x2 : Int} {x3 : ByteArray} {x4 : Int} (hM : M k = (x0, x1, x2, x3, x4)) : MFFlight M (k * 5) = .int .i64 x0 ∧ MFFlight M (k * 5 + 1) = .int .i64 x1 ∧ MFFlight M (k * 5 + 2) = .int .i64 x2 ∧ MFFlight M (k * 5 + 3) = .string x3 ∧ MFFlight M (k * 5 + 4) = .int .i64 x4 :=
 ⟨by have q := MFFlight_at M k 0 (by decide); rw [hM] at q; exact q, by have q := MFFlight_at M k 1 (by decide); rw [hM] at q; exact q, by have q := MFFlight_at M k 2 (by decide); rw [hM] at q; exact q, by have q := MFFlight_at M k 3 (by decide); rw [hM] at q; exact q, by have q := MFFlight_at M k 4 (by decide); rw [hM] at q; exact q⟩
theorem Cs.elFlight {w : World} {b off n k : Nat} {M : Nat → FT} {x0 : Int} {x1 : Int} {x2 : Int} {x3 : ByteArray} {x4 : Int} (h : Cs w b off (n * 5) (MFFlight M)) (hk : k < n) (hM : M k = (x0, x1, x2, x3, x4)) : w.cell? ⟨b, off + k * 5, none⟩ = some (.int .i64 x0) ∧ w.cell? ⟨b, off + k * 5 + 1, none⟩ = some (.int .i64 x1) ∧ w.cell? ⟨b, off + k * 5 + 2, none⟩ = some (.int .i64 x2) ∧ w.cell? ⟨b, off + k * 5 + 3, none⟩ = some (.string x3) ∧ w.cell? ⟨b, off + k * 5 + 4, none⟩ = some (.int .i64 x4) := by
 obtain ⟨q0, q1, q2, q3, q4⟩ := MFFlight_vals hM
 exact ⟨by have := h.2 (k * 5) (by omega); rw [q0] at this; exact this, by have := h.2 (k * 5 + 1) (by omega); rw [q1] at this; exact this, by have := h.2 (k * 5 + 2) (by omega); rw [q2] at this; exact this, by have := h.2 (k * 5 + 3) (by omega); rw [q3] at this; exact this, by have := h.2 (k * 5 + 4) (by omega); rw [q4] at this; exact this⟩
theorem tupFlight (M : Nat → FT) (k : Nat) : ∃ (x0 : Int) (x1 : Int) (x2 : Int) (x3 : ByteArray) (x4 : Int), M k = (x0, x1, x2, x3, x4) := ⟨_, _, _, _, _, rfl⟩
def rowObjFlight (n : Nat) : Obj := .cells (madeCells #[.int .i64 0, .int .i64 0, .int .i64 0, .string ⟨#[]⟩, .int .i64 0] (n * 5)) 101
theorem infoFlight : (Tryz.prog.info? 101).map (fun i => (i.zero, i.size, i.bytes)) = some (some (.agg #[.int .i64 0, .int .i64 0, .int .i64 0, .string ⟨#[]⟩, .int .i64 0]), 5, 48) := by kernel_rfl
theorem mk_rowFlight (n : Nat) (h : n ≤ 1048576) (w : World) : (Instr.makeSlice 47 (.int .i64 (n : Int)) (.int .i64 (n : Int))).run Tryz.prog w = .ok (.slice (some ⟨w.heap.size, 0, none⟩) n n) (w.alloc (rowObjFlight n)) := by
 obtain ⟨i, hi, hz⟩ := Option.map_eq_some_iff.1 infoFlight
 simp only [Prod.mk.injEq] at hz
 obtain ⟨h1, h2, h3⟩ := hz
 have hr := run_make (P := Tryz.prog) w 47 101 i _ Tryz.underlying47 hi h1 .i64 .i64 n n (by omega) (Int.le_refl _) (by rw [h3]; omega) (by omega)
 simp only [Int.toNat_natCast, h2] at hr
 exact hr
theorem rowObjFlight_is (w : World) (n : Nat) (F : Nat → Value) : RowF (w.alloc (rowObjFlight n)) w.heap.size 101 (n * 5) 0 F := by
 have h := World.rowIs_alloc w (madeCells #[.int .i64 0, .int .i64 0, .int .i64 0, .string ⟨#[]⟩, .int .i64 0] (n * 5)) 101 (fun i => (madeCells #[.int .i64 0, .int .i64 0, .int .i64 0, .string ⟨#[]⟩, .int .i64 0] (n * 5)).getD i undef) (fun i hi => by
  rw [Array.getElem?_eq_getElem hi]; exact congrArg some (by rw [Array.getD_eq_getD_getElem?, Array.getElem?_eq_getElem hi]; rfl))
 rw [size_madeCells] at h
 exact ⟨_, h, fun j hj => absurd hj (Nat.not_lt_zero _)⟩
set_option maxHeartbeats 4000000 in
theorem toFlightS_some (b off n c : Nat) (M : Nat → FT) (w : World) (hn : n ≤ 1048576) (hf : Cs w b off (n * 5) (MFFlight M)) :
 Calls Tryz.prog 96 #[.slice (some ⟨b, off, none⟩) n c] w fun e w' => e = .returned (.slice (some ⟨w.heap.size, 0, none⟩) n n) ∧ RowF w' w.heap.size 101 (n * 5) (n * 5) (MFFlight M) ∧ Below w.heap.size w w' := by
 have hmk := mk_rowFlight n hn
 go_enter Tryz.func96, Tryz.ntmps96
 go_wp2_with fail
 clear hmk
 go_loopw [4] (fun i wr => ∃ k : Nat, k ≤ n ∧ i = .int .i64 k ∧ RowF wr w.heap.size 101 (n * 5) (k * 5) (MFFlight M) ∧ Below w.heap.size w wr) (fun i _ => n - (intOf i).toNat)
 case atStart => exact ⟨0, Nat.zero_le _, rfl, (rowObjFlight_is w n _).eqm (by omega), (Below.refl _ _).alloc (Nat.le_refl _) _⟩
 case round =>
  obtain ⟨k, hk, rfl, hrow, hB⟩ := hrel
  by_cases hlt : k < n
  ·obtain ⟨x0, x1, x2, x3, x4, hM⟩ := tupFlight M k
   obtain ⟨c0, c1, c2, c3, c4⟩ := (hf.below hB hf.1).elFlight hlt hM
   obtain ⟨q0, q1, q2, q3, q4⟩ := MFFlight_vals hM
   have hli : (k : Int) < (n : Int) := by omega
   have hlr := hrow.lt
   clear hM
   go_wp2_with fail
   refine (toFlight_any x0 x1 x2 x3 x4 _).mono ?_
   rintro e w' ⟨rfl, hb⟩
   have row := RowF.below hb hlr hrow
   have hB2 := hB.trans (hb.mono hB.size)
   clear c0 c1 c2 c3 c4 hrow hB hb
   have hlr2 := row.lt
   obtain ⟨⟨v0, e0⟩, f0⟩ := row.facts (k * 5) (by omega)
   obtain ⟨⟨v1, e1⟩, f1⟩ := row.facts (k * 5 + 1) (by omega)
   obtain ⟨⟨v2, e2⟩, f2⟩ := row.facts (k * 5 + 2) (by omega)
   obtain ⟨⟨v3, e3⟩, f3⟩ := row.facts (k * 5 + 3) (by omega)
   obtain ⟨⟨v4, e4⟩, f4⟩ := row.facts (k * 5 + 4) (by omega)
   go_wp2_with fail
   go_roundw
   case rel => exact ⟨k + 1, by omega, by go_num, (((((row.put (k * 5 + 1) (by omega) q0).put (k * 5 + 2) (by omega) q1).put (k * 5 + 3) (by omega) q2).put (k * 5 + 4) (by omega) q3).put ((k + 1) * 5) (by omega) q4), (((((hB2.setCell (Nat.le_refl _) _).setCell (Nat.le_refl _) _).setCell (Nat.le_refl _) _).setCell (Nat.le_refl _) _).setCell (Nat.le_refl _) _)⟩
   case measure => simp [intOf]; omega
  ·have hkn : k = n := by omega
   subst hkn
   have hli : ¬ (k : Int) < (k : Int) := by omega
   go_wp2_with fail
   go_ret
   exact ⟨rfl, hrow, hB⟩
set_option maxHeartbeats 1000000 in
theorem toFlightS_empty (a : Option Addr) (c : Nat) (F : Nat → Value) (w : World) :
 Calls Tryz.prog 96 #[.slice a 0 c] w fun e w' => e = .returned (.slice (some ⟨w.heap.size, 0, none⟩) 0 0) ∧ RowF w' w.heap.size 101 (0 * 5) (0 * 5) F ∧ Below w.heap.size w w' := by
 have hmk := mk_rowFlight 0 (by omega)
 simp only [Int.ofNat_zero] at hmk
 go_enter Tryz.func96, Tryz.ntmps96
 go_wp2_with fail
 clear hmk
 go_loopw [4] (fun i wr => i = .int .i64 0 ∧ RowF wr w.heap.size 101 (0 * 5) 0 F ∧ Below w.heap.size w wr) (fun i _ => 0)
 case atStart => exact ⟨rfl, rowObjFlight_is w 0 F, (Below.refl _ _).alloc (Nat.le_refl _) _⟩
 case round =>
  obtain ⟨rfl, hrow, hB⟩ := hrel
  go_wp2_with fail
  go_ret
  exact ⟨rfl, hrow.eqm (by omega), hB⟩
theorem toFlightS_any (a : Option Addr) (n c : Nat) (M : Nat → FT) (w : World) (hn : n ≤ 1048576) (h : SrcC w a (n * 5) (MFFlight M)) :
 Calls Tryz.prog 96 #[.slice a n c] w fun e w' => e = .returned (.slice (some ⟨w.heap.size, 0, none⟩) n n) ∧ RowF w' w.heap.size 101 (n * 5) (n * 5) (MFFlight M) ∧ Below w.heap.size w w' := by
 rcases h with h0 | ⟨b, off, rfl, h2⟩
 ·have hn0 : n = 0 := by omega
  subst hn0
  exact toFlightS_empty a c _ w
 ·exact toFlightS_some b off n c M w hn h2
set_option maxHeartbeats 8000000 in
theorem eqFlightS_some (b off b' off' n c c' : Nat) (M : Nat → FT) (w : World) (hn : n ≤ maxLen) (hf : Cs w b off (n * 5) (MFFlight M)) (hg : Cs w b' off' (n * 5) (MFFlight M)) :
 Calls Tryz.prog 104 #[.slice (some ⟨b, off, none⟩) n c, .slice (some ⟨b', off', none⟩) n c'] w fun e w' => e = .returned (.bool true) ∧ Below w.heap.size w w' := by
 unfold maxLen at hn
 go_enter Tryz.func104, Tryz.ntmps104
 go_wp2_with fail
 go_loopw [5] (fun i wr => ∃ k : Nat, k ≤ n ∧ i = .int .i64 k ∧ Below w.heap.size w wr) (fun i _ => n - (intOf i).toNat)
 case atStart => exact ⟨0, Nat.zero_le _, rfl, Below.refl _ _⟩
 case round =>
  obtain ⟨k, hk, rfl, hB⟩ := hrel
  by_cases hlt : k < n
  ·obtain ⟨x0, x1, x2, x3, x4, hM⟩ := tupFlight M k
   obtain ⟨c0, c1, c2, c3, c4⟩ := (hf.below hB hf.1).elFlight hlt hM
   obtain ⟨d0, d1, d2, d3, d4⟩ := (hg.below hB hg.1).elFlight hlt hM
   have hb1 : b < wr.drew.heap.size := Nat.lt_of_lt_of_le hf.1 hB.size
   have hb2 : b' < wr.drew.heap.size := Nat.lt_of_lt_of_le hg.1 hB.size
   have hsz : w.heap.size ≤ wr.drew.heap.size := hB.size
   have hli : (k : Int) < (n : Int) := by omega
   clear hM
   go_wp2_with fail
   refine wp_region_held_drew (S := (fun w' => w'.cell? ⟨b, off + k * 5, none⟩ = some (.int .i64 x0) ∧ w'.cell? ⟨b, off + k * 5 + 1, none⟩ = some (.int .i64 x1) ∧ w'.cell? ⟨b, off + k * 5 + 2, none⟩ = some (.int .i64 x2) ∧ w'.cell? ⟨b, off + k * 5 + 3, none⟩ = some (.string x3) ∧ w'.cell? ⟨b, off + k * 5 + 4, none⟩ = some (.int .i64 x4) ∧ w'.cell? ⟨b', off' + k * 5, none⟩ = some (.int .i64 x0) ∧ w'.cell? ⟨b', off' + k * 5 + 1, none⟩ = some (.int .i64 x1) ∧ w'.cell? ⟨b', off' + k * 5 + 2, none⟩ = some (.int .i64 x2) ∧ w'.cell? ⟨b', off' + k * 5 + 3, none⟩ = some (.string x3) ∧ w'.cell? ⟨b', off' + k * 5 + 4, none⟩ = some (.int .i64 x4))) (by kernel_rfl) ?_ (fun hHeld => ?_)
   ·first | exact ⟨c0, c1, c2, c3, c4, d0, d1, d2, d3, d4⟩ | (simp (maxDischargeDepth := 6) [go_sem, *]; done)
   refine zTk 0 ?_
   refine zTk 1 ?_
   refine zTk 2 ?_
   refine zTk 3 ?_
   refine zTk 4 ?_
   refine zTk 5 ?_
   refine zTk 6 ?_
   refine zTk 7 ?_
   refine wpAnyH_ready (rs := [8]) (by kernel_rfl) (by simp) ?_
   refine AllReadyH.cons (by rw [List.getElem?_toArray]; rfl) (fun K hK => ?_) AllReadyH.nil
   go_simp
   refine (eqFlight_same _ _ _ _ _ _).mono ?_; rintro e w' ⟨rfl, hb⟩; (replace c0 := (hb.cell (p := ⟨b, off + k * 5, none⟩) hb1).trans c0); (replace c1 := (hb.cell (p := ⟨b, off + k * 5 + 1, none⟩) hb1).trans c1); (replace c2 := (hb.cell (p := ⟨b, off + k * 5 + 2, none⟩) hb1).trans c2); (replace c3 := (hb.cell (p := ⟨b, off + k * 5 + 3, none⟩) hb1).trans c3); (replace c4 := (hb.cell (p := ⟨b, off + k * 5 + 4, none⟩) hb1).trans c4); (replace d0 := (hb.cell (p := ⟨b', off' + k * 5, none⟩) hb2).trans d0); (replace d1 := (hb.cell (p := ⟨b', off' + k * 5 + 1, none⟩) hb2).trans d1); (replace d2 := (hb.cell (p := ⟨b', off' + k * 5 + 2, none⟩) hb2).trans d2); (replace d3 := (hb.cell (p := ⟨b', off' + k * 5 + 3, none⟩) hb2).trans d3); (replace d4 := (hb.cell (p := ⟨b', off' + k * 5 + 4, none⟩) hb2).trans d4)
   (try go_wp2_with fail)
   refine hK.out _ _ ?_ (fun hHeld => ?_)
   ·first | exact ⟨c0, c1, c2, c3, c4, d0, d1, d2, d3, d4⟩ | (simp (maxDischargeDepth := 6) [go_sem, *]; done)
   clear hK K
   (try simp only [Act.put, zSb, zS0, zS1])
   refine zTk 9 ?_
   refine wpAnyH_done (by kernel_rfl) ?_ _
   go_wp2_with fail
   go_roundw
   case rel => exact ⟨k + 1, by omega, by go_num, (Below.drew hB).trans (hb.mono hsz)⟩
   case measure => simp [intOf]; omega
  ·go_wp2_with fail
   go_ret
   exact ⟨rfl, hB⟩
set_option maxHeartbeats 400000 in
theorem eqFlightS_zero (a a' : Option Addr) (c c' : Nat) (w : World) :
 Calls Tryz.prog 104 #[.slice a 0 c, .slice a' 0 c'] w fun e w' => e = .returned (.bool true) ∧ Below w.heap.size w w' := by
 go_enter Tryz.func104, Tryz.ntmps104
 go_wp2_with fail
 go_loopw [5] (fun i wr => i = .int .i64 0 ∧ w = wr) (fun i _ => 0)
 case atStart => exact ⟨rfl, rfl⟩
 case round =>
  obtain ⟨rfl, rfl⟩ := hrel
  go_wp2_with fail
  go_ret
  exact ⟨rfl, Below.refl _ _⟩
theorem eqFlightS_src (a a' : Option Addr) (n c c' : Nat) (M : Nat → FT) (w : World) (hn : n ≤ maxLen) (h : SrcC w a (n * 5) (MFFlight M)) (h' : SrcC w a' (n * 5) (MFFlight M)) :
 Calls Tryz.prog 104 #[.slice a n c, .slice a' n c'] w fun e w' => e = .returned (.bool true) ∧ Below w.heap.size w w' := by
 by_cases h0 : n = 0
 ·subst h0; exact eqFlightS_zero a a' c c' w
 ·rcases h with h | ⟨b, off, rfl, hp⟩
  ·omega
  ·rcases h' with h | ⟨b', off', rfl, hp'⟩
   ·omega
   ·exact eqFlightS_some b off b' off' n c c' M w hn hp hp'
end Go.Proofs.YtddijpjgkifngaaGreat
namespace Go.Proofs.YtddijpjgkifngaaGreat
open Go.RowKit
set_option linter.unusedVariables false
set_option maxHeartbeats 2000000 in
theorem toNet_any (nx : Int) (a : Option Addr) (n c : Nat) (M : Nat → FT) (w : World) (hn : n ≤ 1048576) (h : SrcC w a (n * 5) (MFFlight M)) :
 Calls Tryz.prog 50 #[.agg #[.int .i64 nx, .slice a n c]] w fun e w' => e = .returned (.agg #[.int .i64 nx, .slice (some ⟨w.heap.size + 3, 0, none⟩) n n]) ∧ RowF w' (w.heap.size + 3) 101 (n * 5) (n * 5) (MFFlight M) ∧ Below w.heap.size w w' := by
 have A0 := ((Below.nw w (.cells #[.int .i64 nx, .slice a n c] 34)).alloc (by simp) (.cells #[.int .i64 0, .slice none 0 0] 49)).alloc (by simp; omega) (.cells #[.int .i64 nx, .slice none 0 0] 49)
 have z3 : (((w.alloc (.cells #[.int .i64 nx, .slice a n c] 34)).alloc (.cells #[.int .i64 0, .slice none 0 0] 49)).alloc (.cells #[.int .i64 nx, .slice none 0 0] 49)).heap.size = w.heap.size + 3 := by simp
 have C := toFlightS_any a n c M _ hn (h.below A0)
 rw [z3] at C
 have r0 : (((w.alloc (.cells #[.int .i64 nx, .slice a n c] 34)).alloc (.cells #[.int .i64 0, .slice none 0 0] 49)).alloc (.cells #[.int .i64 nx, .slice none 0 0] 49)).cell? ⟨w.heap.size + 1, 0, none⟩ = some (.int .i64 0) := by simp [go_sem]
 have r1 : (((w.alloc (.cells #[.int .i64 nx, .slice a n c] 34)).alloc (.cells #[.int .i64 0, .slice none 0 0] 49)).alloc (.cells #[.int .i64 nx, .slice none 0 0] 49)).cell? ⟨w.heap.size + 1, 1, none⟩ = some (.slice none 0 0) := by simp [go_sem]
 have o0 : (((w.alloc (.cells #[.int .i64 nx, .slice a n c] 34)).alloc (.cells #[.int .i64 0, .slice none 0 0] 49)).alloc (.cells #[.int .i64 nx, .slice none 0 0] 49)).cell? ⟨w.heap.size + 1 + 1, 0, none⟩ = some (.int .i64 nx) := by simp [go_sem]
 have o1 : (((w.alloc (.cells #[.int .i64 nx, .slice a n c] 34)).alloc (.cells #[.int .i64 0, .slice none 0 0] 49)).alloc (.cells #[.int .i64 nx, .slice none 0 0] 49)).cell? ⟨w.heap.size + 1 + 1, 1, none⟩ = some (.slice none 0 0) := by simp [go_sem]
 have f0 : (((w.alloc (.cells #[.int .i64 nx, .slice a n c] 34)).alloc (.cells #[.int .i64 0, .slice none 0 0] 49)).alloc (.cells #[.int .i64 nx, .slice none 0 0] 49)).frozen? ⟨w.heap.size + 1, 0, none⟩ = false := by simp [go_sem]
 have f1 : (((w.alloc (.cells #[.int .i64 nx, .slice a n c] 34)).alloc (.cells #[.int .i64 0, .slice none 0 0] 49)).alloc (.cells #[.int .i64 nx, .slice none 0 0] 49)).frozen? ⟨w.heap.size + 1, 1, none⟩ = false := by simp [go_sem]
 have g1 : (((w.alloc (.cells #[.int .i64 nx, .slice a n c] 34)).alloc (.cells #[.int .i64 0, .slice none 0 0] 49)).alloc (.cells #[.int .i64 nx, .slice none 0 0] 49)).frozen? ⟨w.heap.size + 1 + 1, 1, none⟩ = false := by simp [go_sem]
 clear h
 go_enter Tryz.func50, Tryz.ntmps50
 go_wp2_with fail
 refine C.mono ?_
 rintro e w1 ⟨rfl, R1, hb⟩
 have l3 := R1.lt
 have q0 := (hb.cell (p := ⟨w.heap.size + 1, 0, none⟩) (by simp)).trans r0
 have q1 := (hb.cell (p := ⟨w.heap.size + 1, 1, none⟩) (by simp)).trans r1
 have p0 := (hb.cell (p := ⟨w.heap.size + 1 + 1, 0, none⟩) (by simp)).trans o0
 have p1 := (hb.cell (p := ⟨w.heap.size + 1 + 1, 1, none⟩) (by simp)).trans o1
 have k0 := (hb.frozen (p := ⟨w.heap.size + 1, 0, none⟩) (by simp)).trans f0
 have k1 := (hb.frozen (p := ⟨w.heap.size + 1, 1, none⟩) (by simp)).trans f1
 have j1 := (hb.frozen (p := ⟨w.heap.size + 1 + 1, 1, none⟩) (by simp)).trans g1
 have B1 := A0.trans (hb.mono (by omega))
 have RF : RowF (((w1.setCell ⟨w.heap.size + 1 + 1, 1, none⟩ (.slice (some ⟨w.heap.size + 3, 0, none⟩) n n)).setCell ⟨w.heap.size + 1, 0, none⟩ (.int .i64 nx)).setCell ⟨w.heap.size + 1, 1, none⟩ (.slice (some ⟨w.heap.size + 3, 0, none⟩) n n)) (w.heap.size + 3) 101 (n * 5) (n * 5) (MFFlight M) := ((R1.setO (by omega) _ _).setO (by omega) _ _).setO (by omega) _ _
 have BF : Below w.heap.size w (((w1.setCell ⟨w.heap.size + 1 + 1, 1, none⟩ (.slice (some ⟨w.heap.size + 3, 0, none⟩) n n)).setCell ⟨w.heap.size + 1, 0, none⟩ (.int .i64 nx)).setCell ⟨w.heap.size + 1, 1, none⟩ (.slice (some ⟨w.heap.size + 3, 0, none⟩) n n)) := ((B1.setCell (by simp; omega) _).setCell (by simp) _).setCell (by simp) _
 have s1 : w.heap.size + 1 < w1.heap.size := by omega
 have s2 : w.heap.size + 1 + 1 < w1.heap.size := by omega
 clear hb C r0 r1 o0 o1 f0 f1 g1 A0 z3 R1 B1
 go_wp2_with fail
 exact bodyPost_ret (v := .agg #[.int .i64 nx, .slice (some ⟨w.heap.size + 3, 0, none⟩) n n]) (by simp (maxDischargeDepth := 6) [results, Tryz.results50, go_sem, *]) rfl ⟨rfl, RF, BF⟩
set_option maxHeartbeats 2000000 in
theorem eqNet_same (nx : Int) (a a' : Option Addr) (n c c' : Nat) (M : Nat → FT) (w : World) (hn : n ≤ maxLen) (h : SrcC w a (n * 5) (MFFlight M)) (h' : SrcC w a' (n * 5) (MFFlight M)) :
 Calls Tryz.prog 54 #[.agg #[.int .i64 nx, .slice a n c], .agg #[.int .i64 nx, .slice a' n c']] w fun e w' => e = .returned (.bool true) ∧ Below w.heap.size w w' := by
 have A0 := (Below.nw w (.cells #[.int .i64 nx, .slice a n c] 49)).alloc (by simp) (.cells #[.int .i64 nx, .slice a' n c'] 49)
 have C := eqFlightS_src a a' n c c' M _ hn (h.below A0) (h'.below A0)
 clear h h'
 go_enter Tryz.func54, Tryz.ntmps54
 go_wp2_with fail
 refine C.mono ?_
 rintro e w1 ⟨rfl, hb⟩
 go_wp2_with fail
 go_ret
 exact ⟨rfl, A0.trans (hb.mono A0.size)⟩
end Go.Proofs.YtddijpjgkifngaaGreat
namespace Go.Proofs.YtddijpjgkifngaaGreat
open Go.RowKit
set_option linter.unusedVariables false
set_option maxHeartbeats 1000000 in
theorem szFlightS_longZ (a : Option Addr) (n c : Nat) (z0 : Int) (hz0 : 0 ≤ z0 ∧ z0 ≤ 1048576) (w : World) (hm : n ≤ maxLen) (h : z0 < (n : Int)) :
 Calls Tryz.prog 80 #[.slice a n c, .int .i64 z0] w fun e w' => e = .returned (.int .i64 (-1)) ∧ Below w.heap.size w w' := by
 unfold maxLen at hm
 have hd : decide (z0 - (n : Int) < 0) = true := by simp; omega
 go_enter Tryz.func80, Tryz.ntmps80
 go_wp2_with fail
 go_ret
 exact ⟨rfl, Below.refl _ _⟩
set_option maxHeartbeats 2000000 in
theorem szFlightS_someZ (b off n c : Nat) (M : Nat → FT) (z0 : Int) (hz0 : 0 ≤ z0 ∧ z0 ≤ 1048576) (w : World) (hn : (n : Int) ≤ z0) (hf : Cs w b off (n * 5) (MFFlight M)) (hs : ∀ i, i < n → ((M i).2.2.2.1).size ≤ maxLen) :
 Calls Tryz.prog 80 #[.slice (some ⟨b, off, none⟩) n c, .int .i64 z0] w fun e w' => ∃ L : Int, e = .returned (.int .i64 L) ∧ (0 ≤ L → L ≤ z0 ∧ ∀ i, i < n → ((M i).2.2.2.1).size ≤ 1048576) ∧ Below w.heap.size w w' := by
 have hd : decide (z0 - (n : Int) < 0) = false := by simp; omega
 have HS : Hid (∀ i, i < n → ((M i).2.2.2.1).size ≤ maxLen) := hs
 clear hs
 go_enter Tryz.func80, Tryz.ntmps80
 go_wp2_with fail
 go_loopw [1, 5] (fun l i wr => ∃ (k : Nat) (L : Int), k ≤ n ∧ i = .int .i64 k ∧ l = .int .i64 L ∧ 0 ≤ L ∧ L ≤ z0 ∧ (∀ i, i < k → ((M i).2.2.2.1).size ≤ 1048576) ∧ Below w.heap.size w wr) (fun _ i _ => n - (intOf i).toNat)
 case atStart => exact ⟨0, _, Nat.zero_le _, rfl, rfl, by omega, by omega, fun i hi => absurd hi (Nat.not_lt_zero _), Below.refl _ _⟩
 case round =>
  obtain ⟨k, L, hk, rfl, rfl, L0, L1, hall, hB⟩ := hrel
  have HA : Hid (∀ i, i < k → ((M i).2.2.2.1).size ≤ 1048576) := hall
  clear hall
  by_cases hlt : k < n
  ·obtain ⟨x0, x1, x2, x3, x4, hM⟩ := tupFlight M k
   obtain ⟨c0, c1, c2, c3, c4⟩ := (hf.below hB hf.1).elFlight hlt hM
   have hx := HS.out k hlt
   rw [hM] at hx
   have hli : (k : Int) < (n : Int) := by omega
   by_cases hle : (x3.size : Int) ≤ L
   ·go_wp2_with fail
    refine (szFlight_left x0 x1 x2 x3 x4 L _ hx L0 (Int.le_trans L1 hz0.2)).mono ?_
    rintro e w' ⟨rfl, hb⟩
    rw [if_pos hle]
    have hnl : ¬ L - (x3.size : Int) < 0 := by omega
    go_wp2_with fail
    go_roundw
    case rel =>
     refine ⟨k + 1, _, by omega, by go_num, rfl, by omega, by omega, fun i hi => ?_, hB.trans (hb.mono hB.size)⟩
     by_cases e : i = k
     ·subst e; rw [hM]; show x3.size ≤ 1048576; omega
     ·exact HA.out i (by omega)
    case measure => simp [intOf]; omega
   ·have HL : Hid (¬ (x3.size : Int) ≤ L) := hle
    go_wp2_with fail
    refine (szFlight_left x0 x1 x2 x3 x4 L _ hx L0 (Int.le_trans L1 hz0.2)).mono ?_
    rintro e w' ⟨rfl, hb⟩
    rw [if_neg (Int.not_le.2 HL.out)]
    go_wp2_with fail
    go_ret
    exact ⟨-1, rfl, fun h => absurd h (by decide), hB.trans (hb.mono hB.size)⟩
  ·have hkn : k = n := by omega
   subst hkn
   have hli : ¬ (k : Int) < (k : Int) := by omega
   go_wp2_with fail
   go_ret
   exact ⟨L, rfl, fun _ => ⟨L1, HA.out⟩, hB⟩
set_option maxHeartbeats 1000000 in
theorem szFlightS_zeroZ (a : Option Addr) (c : Nat) (z0 : Int) (hz0 : 0 ≤ z0 ∧ z0 ≤ 1048576) (w : World) :
 Calls Tryz.prog 80 #[.slice a 0 c, .int .i64 z0] w fun e w' => e = .returned (.int .i64 z0) ∧ Below w.heap.size w w' := by
 go_enter Tryz.func80, Tryz.ntmps80
 go_wp2_with fail
 go_loopw [1, 5] (fun l i wr => i = .int .i64 0 ∧ l = .int .i64 z0 ∧ w = wr) (fun _ i _ => 0)
 case atStart => exact ⟨rfl, rfl, by first | rfl | trivial⟩
 case round =>
  obtain ⟨rfl, rfl, rfl⟩ := hrel
  go_wp2_with fail
  go_ret
  exact ⟨rfl, Below.refl _ _⟩
theorem szFlightS_at (a : Option Addr) (n c : Nat) (M : Nat → FT) (z0 : Int) (hz0 : 0 ≤ z0 ∧ z0 ≤ 1048576) (w : World) (hm : n ≤ maxLen) (h : SrcC w a (n * 5) (MFFlight M)) (hs : ∀ i, i < n → ((M i).2.2.2.1).size ≤ maxLen) :
 Calls Tryz.prog 80 #[.slice a n c, .int .i64 z0] w fun e w' => ∃ L : Int, e = .returned (.int .i64 L) ∧ (0 ≤ L → L ≤ z0 ∧ n ≤ 1048576 ∧ ∀ i, i < n → ((M i).2.2.2.1).size ≤ 1048576) ∧ Below w.heap.size w w' := by
 by_cases hl : z0 < (n : Int)
 ·exact (szFlightS_longZ a n c z0 hz0 w hm hl).mono fun e w' ⟨h1, h2⟩ => ⟨-1, h1, fun h => absurd h (by decide), h2⟩
 ·rcases h with h0 | ⟨b, off, rfl, hf⟩
  ·have hn0 : n = 0 := by omega
   subst hn0
   exact (szFlightS_zeroZ a c z0 hz0 w).mono fun e w' ⟨h1, h2⟩ => ⟨_, h1, fun _ => ⟨Int.le_refl _, by omega, fun i hi => absurd hi (Nat.not_lt_zero _)⟩, h2⟩
  ·exact (szFlightS_someZ b off n c M z0 hz0 w (by omega) hf hs).mono fun e w' ⟨L, h1, h2, h3⟩ => ⟨L, h1, fun h => ⟨(h2 h).1, by omega, (h2 h).2⟩, h3⟩
set_option maxHeartbeats 2000000 in
theorem szNet_at (nx : Int) (a : Option Addr) (n c : Nat) (M : Nat → FT) (z0 : Int) (hz0 : 0 ≤ z0 ∧ z0 ≤ 1048576) (w : World) (hm : n ≤ maxLen) (h : SrcC w a (n * 5) (MFFlight M)) (hs : ∀ i, i < n → ((M i).2.2.2.1).size ≤ maxLen) :
 Calls Tryz.prog 39 #[.agg #[.int .i64 nx, .slice a n c], .int .i64 z0] w fun e w' => ∃ L : Int, e = .returned (.int .i64 L) ∧ (0 ≤ L → L ≤ z0 ∧ n ≤ 1048576 ∧ ∀ i, i < n → ((M i).2.2.2.1).size ≤ 1048576) ∧ Below w.heap.size w w' := by
 have A0 := Below.nw w (.cells #[.int .i64 nx, .slice a n c] 34)
 have C := szFlightS_at a n c M z0 hz0 _ hm (h.below A0) hs
 clear h hs
 go_enter Tryz.func39, Tryz.ntmps39
 go_wp2_with fail
 refine C.mono ?_
 rintro e w1 ⟨L, rfl, hL, hb⟩
 have B1 := A0.trans (hb.mono A0.size)
 by_cases hneg : L < 0
 ·clear hL
  go_wp2_with fail
  go_ret
  exact ⟨-1, rfl, fun h => absurd h (by decide), B1⟩
 ·have HL : Hid (0 ≤ L → L ≤ z0 ∧ n ≤ 1048576 ∧ ∀ i, i < n → ((M i).2.2.2.1).size ≤ 1048576) := hL
  clear hL
  go_wp2_with fail
  go_ret
  exact ⟨L, rfl, HL.out, B1⟩
end Go.Proofs.YtddijpjgkifngaaGreat
