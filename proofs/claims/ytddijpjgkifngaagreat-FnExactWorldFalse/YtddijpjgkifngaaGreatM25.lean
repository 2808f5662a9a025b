/- Rows of frames: what the laws make of them, and whether two are the same. Rows of frames: their size and their marks from any number on. -/
import Derived.Test.YtddijpjgkifngaaGreatM0
import Derived.Test.YtddijpjgkifngaaGreatM4
namespace Go.Proofs.YtddijpjgkifngaaGreat
open Go.RowKit
set_option linter.unusedVariables false
def MCFrame (M : FrT) : Nat → Value
 | 0 => .int .i64 M.1
 | 1 => .int .i64 M.2.1
 | 2 => .int .i64 M.2.2.1
 | 3 => .int .i64 M.2.2.2.1
 | 4 => .int .i64 M.2.2.2.2.1
 | _ => .string M.2.2.2.2.2
def MFFrame (M : Nat → FrT) (c : Nat) : Value := MCFrame (M (c / 6)) (c % 6)
theorem MFFrame_at (M : Nat → FrT) (k j : Nat) (hj : j < 6) : MFFrame M (k * 6 + j) = MCFrame (M k) j := by
 have h1 : (k * 6 + j) / 6 = k := by omega
 have h2 : (k * 6 + j) % 6 = j := by omega
 rw [MFFrame, h1, h2]
theorem MFFrame_vals {M : Nat → FrT} {k : Nat} {x0 : Int} {x1 : Int} {x2 : Int} {x3 : Int} {x4 : Int} {x5 : ByteArray} (hM : M k = (x0, x1, x2, x3, x4, x5)) : MFFrame M (k * 6) = .int .i64 x0 ∧ MFFrame M (k * 6 + 1) = .int .i64 x1 ∧ MFFrame M (k * 6 + 2) = .int .i64 x2 ∧ MFFrame M (k * 6 + 3) = .int .i64 x3 ∧ MFFrame M (k * 6 + 4) = .int .i64 x4 ∧ MFFrame M (k * 6 + 5) = .string x5 :=
 ⟨by have q := MFFrame_at M k 0 (by decide); rw [hM] at q; exact q, by have q := MFFrame_at M k 1 (by decide); rw [hM] at q; exact q, by have q := MFFrame_at M k 2 (by decide); rw [hM] at q; exact q, by have q := MFFrame_at M k 3 (by decide); rw [hM] at q; exact q, by have q := MFFrame_at M k 4 (by decide); rw [hM] at q; exact q, by have q := MFFrame_at M k 5 (by decide); rw [hM] at q; exact q⟩
theorem Cs.elFrame {w : World} {b off n k : Nat} {M : Nat → FrT} {x0 : Int} {x1 : Int} {x2 : Int} {x3 : Int} {x4 : Int} {x5 : ByteArray} (h : Cs w b off (n * 6) (MFFrame M)) (hk : k < n) (hM : M k = (x0, x1, x2, x3, x4, x5)) : w.cell? ⟨b, off + k * 6, none⟩ = some (.int .i64 x0) ∧ w.cell? ⟨b, off + k * 6 + 1, none⟩ = some (.int .i64 x1) ∧ w.cell? ⟨b, off + k * 6 + 2, none⟩ = some (.int .i64 x2) ∧ w.cell? ⟨b, off + k * 6 + 3, none⟩ = some (.int .i64 x3) ∧ w.cell? ⟨b, off + k * 6 + 4, none⟩ = some (.int .i64 x4) ∧ w.cell? ⟨b, off + k * 6 + 5, none⟩ = some (.string x5) := by
 obtain ⟨q0, q1, q2, q3, q4, q5⟩ := MFFrame_vals hM
 exact ⟨by have := h.2 (k * 6) (by omega); rw [q0] at this; exact this, by have := h.2 (k * 6 + 1) (by omega); rw [q1] at this; exact this, by have := h.2 (k * 6 + 2) (by omega); rw [q2] at this; exact this, by have := h.2 (k * 6 + 3) (by omega); rw [q3] at this; exact this, by have := h.2 (k * 6 + 4) (by omega); rw [q4] at this; exact this, by have := h.2 (k * 6 + 5) (by omega); rw [q5] at this; exact this⟩
theorem tupFrame (M : Nat → FrT) (k : Nat) : ∃ (x0 : Int) (x1 : Int) (x2 : Int) (x3 : Int) (x4 : Int) (x5 : ByteArray), M k = (x0, x1, x2, x3, x4, x5) := ⟨_, _, _, _, _, _, rfl⟩
def rowObjFrame (n : Nat) : Obj := .cells (madeCells #[.int .i64 0, .int .i64 0, .int .i64 0, .int .i64 0, .int .i64 0, .string ⟨#[]⟩] (n * 6)) 103
theorem infoFrame : (Tryz.prog.info? 103).map (fun i => (i.zero, i.size, i.bytes)) = some (some (.agg #[.int .i64 0, .int .i64 0, .int .i64 0, .int .i64 0, .int .i64 0, .string ⟨#[]⟩]), 6, 56) := by kernel_rfl
theorem mk_rowFrame (n : Nat) (h : n ≤ 1048576) (w : World) : (Instr.makeSlice 50 (.int .i64 (n : Int)) (.int .i64 (n : Int))).run Tryz.prog w = .ok (.slice (some ⟨w.heap.size, 0, none⟩) n n) (w.alloc (rowObjFrame n)) := by
 obtain ⟨i, hi, hz⟩ := Option.map_eq_some_iff.1 infoFrame
 simp only [Prod.mk.injEq] at hz
 obtain ⟨h1, h2, h3⟩ := hz
 have hr := run_make (P := Tryz.prog) w 50 103 i _ Tryz.underlying50 hi h1 .i64 .i64 n n (by omega) (Int.le_refl _) (by rw [h3]; omega) (by omega)
 simp only [Int.toNat_natCast, h2] at hr
 exact hr
theorem rowObjFrame_is (w : World) (n : Nat) (F : Nat → Value) : RowF (w.alloc (rowObjFrame n)) w.heap.size 103 (n * 6) 0 F := by
 have h := World.rowIs_alloc w (madeCells #[.int .i64 0, .int .i64 0, .int .i64 0, .int .i64 0, .int .i64 0, .string ⟨#[]⟩] (n * 6)) 103 (fun i => (madeCells #[.int .i64 0, .int .i64 0, .int .i64 0, .int .i64 0, .int .i64 0, .string ⟨#[]⟩] (n * 6)).getD i undef) (fun i hi => by
  rw [Array.getElem?_eq_getElem hi]; exact congrArg some (by rw [Array.getD_eq_getD_getElem?, Array.getElem?_eq_getElem hi]; rfl))
 rw [size_madeCells] at h
 exact ⟨_, h, fun j hj => absurd hj (Nat.not_lt_zero _)⟩
set_option maxHeartbeats 4000000 in
theorem toFrameS_some (b off n c : Nat) (M : Nat → FrT) (w : World) (hn : n ≤ 1048576) (hf : Cs w b off (n * 6) (MFFrame M)) :
 Calls Tryz.prog 51 #[.slice (some ⟨b, off, none⟩) n c] w fun e w' => e = .returned (.slice (some ⟨w.heap.size, 0, none⟩) n n) ∧ RowF w' w.heap.size 103 (n * 6) (n * 6) (MFFrame M) ∧ Below w.heap.size w w' := by
 have hmk := mk_rowFrame n hn
 go_enter Tryz.func51, Tryz.ntmps51
 go_wp2_with fail
 clear hmk
 go_loopw [4] (fun i wr => ∃ k : Nat, k ≤ n ∧ i = .int .i64 k ∧ RowF wr w.heap.size 103 (n * 6) (k * 6) (MFFrame M) ∧ Below w.heap.size w wr) (fun i _ => n - (intOf i).toNat)
 case atStart => exact ⟨0, Nat.zero_le _, rfl, (rowObjFrame_is w n _).eqm (by omega), (Below.refl _ _).alloc (Nat.le_refl _) _⟩
 case round =>
  obtain ⟨k, hk, rfl, hrow, hB⟩ := hrel
  by_cases hlt : k < n
  ·obtain ⟨x0, x1, x2, x3, x4, x5, hM⟩ := tupFrame M k
   obtain ⟨c0, c1, c2, c3, c4, c5⟩ := (hf.below hB hf.1).elFrame hlt hM
   obtain ⟨q0, q1, q2, q3, q4, q5⟩ := MFFrame_vals hM
   have hli : (k : Int) < (n : Int) := by omega
   have hlr := hrow.lt
   clear hM
   go_wp2_with fail
   refine (toFrame_any x0 x1 x2 x3 x4 x5 _).mono ?_
   rintro e w' ⟨rfl, hb⟩
   have row := RowF.below hb hlr hrow
   have hB2 := hB.trans (hb.mono hB.size)
   clear c0 c1 c2 c3 c4 c5 hrow hB hb
   have hlr2 := row.lt
   obtain ⟨⟨v0, e0⟩, f0⟩ := row.facts (k * 6) (by omega)
   obtain ⟨⟨v1, e1⟩, f1⟩ := row.facts (k * 6 + 1) (by omega)
   obtain ⟨⟨v2, e2⟩, f2⟩ := row.facts (k * 6 + 2) (by omega)
   obtain ⟨⟨v3, e3⟩, f3⟩ := row.facts (k * 6 + 3) (by omega)
   obtain ⟨⟨v4, e4⟩, f4⟩ := row.facts (k * 6 + 4) (by omega)
   obtain ⟨⟨v5, e5⟩, f5⟩ := row.facts (k * 6 + 5) (by omega)
   go_wp2_with fail
   go_roundw
   case rel => exact ⟨k + 1, by omega, by go_num, ((((((row.put (k * 6 + 1) (by omega) q0).put (k * 6 + 2) (by omega) q1).put (k * 6 + 3) (by omega) q2).put (k * 6 + 4) (by omega) q3).put (k * 6 + 5) (by omega) q4).put ((k + 1) * 6) (by omega) q5), ((((((hB2.setCell (Nat.le_refl _) _).setCell (Nat.le_refl _) _).setCell (Nat.le_refl _) _).setCell (Nat.le_refl _) _).setCell (Nat.le_refl _) _).setCell (Nat.le_refl _) _)⟩
   case measure => simp [intOf]; omega
  ·have hkn : k = n := by omega
   subst hkn
   have hli : ¬ (k : Int) < (k : Int) := by omega
   go_wp2_with fail
   go_ret
   exact ⟨rfl, hrow, hB⟩
set_option maxHeartbeats 1000000 in
theorem toFrameS_empty (a : Option Addr) (c : Nat) (F : Nat → Value) (w : World) :
 Calls Tryz.prog 51 #[.slice a 0 c] w fun e w' => e = .returned (.slice (some ⟨w.heap.size, 0, none⟩) 0 0) ∧ RowF w' w.heap.size 103 (0 * 6) (0 * 6) F ∧ Below w.heap.size w w' := by
 have hmk := mk_rowFrame 0 (by omega)
 simp only [Int.ofNat_zero] at hmk
 go_enter Tryz.func51, Tryz.ntmps51
 go_wp2_with fail
 clear hmk
 go_loopw [4] (fun i wr => i = .int .i64 0 ∧ RowF wr w.heap.size 103 (0 * 6) 0 F ∧ Below w.heap.size w wr) (fun i _ => 0)
 case atStart => exact ⟨rfl, rowObjFrame_is w 0 F, (Below.refl _ _).alloc (Nat.le_refl _) _⟩
 case round =>
  obtain ⟨rfl, hrow, hB⟩ := hrel
  go_wp2_with fail
  go_ret
  exact ⟨rfl, hrow.eqm (by omega), hB⟩
theorem toFrameS_any (a : Option Addr) (n c : Nat) (M : Nat → FrT) (w : World) (hn : n ≤ 1048576) (h : SrcC w a (n * 6) (MFFrame M)) :
 Calls Tryz.prog 51 #[.slice a n c] w fun e w' => e = .returned (.slice (some ⟨w.heap.size, 0, none⟩) n n) ∧ RowF w' w.heap.size 103 (n * 6) (n * 6) (MFFrame M) ∧ Below w.heap.size w w' := by
 rcases h with h0 | ⟨b, off, rfl, h2⟩
 ·have hn0 : n = 0 := by omega
  subst hn0
  exact toFrameS_empty a c _ w
 ·exact toFrameS_some b off n c M w hn h2
set_option maxHeartbeats 8000000 in
theorem eqFrameS_some (b off b' off' n c c' : Nat) (M : Nat → FrT) (w : World) (hn : n ≤ maxLen) (hf : Cs w b off (n * 6) (MFFrame M)) (hg : Cs w b' off' (n * 6) (MFFrame M)) :
 Calls Tryz.prog 55 #[.slice (some ⟨b, off, none⟩) n c, .slice (some ⟨b', off', none⟩) n c'] w fun e w' => e = .returned (.bool true) ∧ Below w.heap.size w w' := by
 unfold maxLen at hn
 go_enter Tryz.func55, Tryz.ntmps55
 go_wp2_with fail
 go_loopw [5] (fun i wr => ∃ k : Nat, k ≤ n ∧ i = .int .i64 k ∧ Below w.heap.size w wr) (fun i _ => n - (intOf i).toNat)
 case atStart => exact ⟨0, Nat.zero_le _, rfl, Below.refl _ _⟩
 case round =>
  obtain ⟨k, hk, rfl, hB⟩ := hrel
  by_cases hlt : k < n
  ·obtain ⟨x0, x1, x2, x3, x4, x5, hM⟩ := tupFrame M k
   obtain ⟨c0, c1, c2, c3, c4, c5⟩ := (hf.below hB hf.1).elFrame hlt hM
   obtain ⟨d0, d1, d2, d3, d4, d5⟩ := (hg.below hB hg.1).elFrame hlt hM
   have hb1 : b < wr.drew.heap.size := Nat.lt_of_lt_of_le hf.1 hB.size
   have hb2 : b' < wr.drew.heap.size := Nat.lt_of_lt_of_le hg.1 hB.size
   have hsz : w.heap.size ≤ wr.drew.heap.size := hB.size
   have hli : (k : Int) < (n : Int) := by omega
   clear hM
   go_wp2_with fail
   refine wp_region_held_drew (S := (fun w' => w'.cell? ⟨b, off + k * 6, none⟩ = some (.int .i64 x0) ∧ w'.cell? ⟨b, off + k * 6 + 1, none⟩ = some (.int .i64 x1) ∧ w'.cell? ⟨b, off + k * 6 + 2, none⟩ = some (.int .i64 x2) ∧ w'.cell? ⟨b, off + k * 6 + 3, none⟩ = some (.int .i64 x3) ∧ w'.cell? ⟨b, off + k * 6 + 4, none⟩ = some (.int .i64 x4) ∧ w'.cell? ⟨b, off + k * 6 + 5, none⟩ = some (.string x5) ∧ w'.cell? ⟨b', off' + k * 6, none⟩ = some (.int .i64 x0) ∧ w'.cell? ⟨b', off' + k * 6 + 1, none⟩ = some (.int .i64 x1) ∧ w'.cell? ⟨b', off' + k * 6 + 2, none⟩ = some (.int .i64 x2) ∧ w'.cell? ⟨b', off' + k * 6 + 3, none⟩ = some (.int .i64 x3) ∧ w'.cell? ⟨b', off' + k * 6 + 4, none⟩ = some (.int .i64 x4) ∧ w'.cell? ⟨b', off' + k * 6 + 5, none⟩ = some (.string x5))) (by kernel_rfl) ?_ (fun hHeld => ?_)
   ·first | exact ⟨c0, c1, c2, c3, c4, c5, d0, d1, d2, d3, d4, d5⟩ | (simp (maxDischargeDepth := 6) [go_sem, *]; done)
   refine zTk 0 ?_
   refine zTk 1 ?_
   refine zTk 2 ?_
   refine zTk 3 ?_
   refine zTk 4 ?_
   refine zTk 5 ?_
   refine zTk 6 ?_
   refine zTk 7 ?_
   refine wpAnyH_ready (rs := [8]) (by kernel_rfl) (by simp) ?_
   refine AllReadyH.cons (by rw [List.getElem?_toArray]; rfl) (fun K hK => ?_) AllReadyH.nil
   go_simp
   refine (eqFrame_same _ _ _ _ _ _ _).mono ?_; rintro e w' ⟨rfl, hb⟩; (replace c0 := (hb.cell (p := ⟨b, off + k * 6, none⟩) hb1).trans c0); (replace c1 := (hb.cell (p := ⟨b, off + k * 6 + 1, none⟩) hb1).trans c1); (replace c2 := (hb.cell (p := ⟨b, off + k * 6 + 2, none⟩) hb1).trans c2); (replace c3 := (hb.cell (p := ⟨b, off + k * 6 + 3, none⟩) hb1).trans c3); (replace c4 := (hb.cell (p := ⟨b, off + k * 6 + 4, none⟩) hb1).trans c4); (replace c5 := (hb.cell (p := ⟨b, off + k * 6 + 5, none⟩) hb1).trans c5); (replace d0 := (hb.cell (p := ⟨b', off' + k * 6, none⟩) hb2).trans d0); (replace d1 := (hb.cell (p := ⟨b', off' + k * 6 + 1, none⟩) hb2).trans d1); (replace d2 := (hb.cell (p := ⟨b', off' + k * 6 + 2, none⟩) hb2).trans d2); (replace d3 := (hb.cell (p := ⟨b', off' + k * 6 + 3, none⟩) hb2).trans d3); (replace d4 := (hb.cell (p := ⟨b', off' + k * 6 + 4, none⟩) hb2).trans d4); (replace d5 := (hb.cell (p := ⟨b', off' + k * 6 + 5, none⟩) hb2).trans d5)
   (try go_wp2_with fail)
   refine hK.out _ _ ?_ (fun hHeld => ?_)
   ·first | exact ⟨c0, c1, c2, c3, c4, c5, d0, d1, d2, d3, d4, d5⟩ | (simp (maxDischargeDepth := 6) [go_sem, *]; done)
   clear hK K
   (try simp only [Act.put, zSb, zS0, zS1])
   refine zTk 9 ?_
   refine wpAnyH_done (by kernel_rfl) ?_ _
   go_wp2_with fail
   go_roundw
   case rel => exact ⟨k + 1, by omega, by go_num, (Below.drew hB).trans (hb.mono hsz)⟩
   case measure => simp [intOf]; omega
  ·go_wp2_with fail
   go_ret
   exact ⟨rfl, hB⟩
set_option maxHeartbeats 400000 in
theorem eqFrameS_zero (a a' : Option Addr) (c c' : Nat) (w : World) :
 Calls Tryz.prog 55 #[.slice a 0 c, .slice a' 0 c'] w fun e w' => e = .returned (.bool true) ∧ Below w.heap.size w w' := by
 go_enter Tryz.func55, Tryz.ntmps55
 go_wp2_with fail
 go_loopw [5] (fun i wr => i = .int .i64 0 ∧ w = wr) (fun i _ => 0)
 case atStart => exact ⟨rfl, rfl⟩
 case round =>
  obtain ⟨rfl, rfl⟩ := hrel
  go_wp2_with fail
  go_ret
  exact ⟨rfl, Below.refl _ _⟩
theorem eqFrameS_src (a a' : Option Addr) (n c c' : Nat) (M : Nat → FrT) (w : World) (hn : n ≤ maxLen) (h : SrcC w a (n * 6) (MFFrame M)) (h' : SrcC w a' (n * 6) (MFFrame M)) :
 Calls Tryz.prog 55 #[.slice a n c, .slice a' n c'] w fun e w' => e = .returned (.bool true) ∧ Below w.heap.size w w' := by
 by_cases h0 : n = 0
 ·subst h0; exact eqFrameS_zero a a' c c' w
 ·rcases h with h | ⟨b, off, rfl, hp⟩
  ·omega
  ·rcases h' with h | ⟨b', off', rfl, hp'⟩
   ·omega
   ·exact eqFrameS_some b off b' off' n c c' M w hn hp hp'
end Go.Proofs.YtddijpjgkifngaaGreat
namespace Go.Proofs.YtddijpjgkifngaaGreat
open Go.RowKit
set_option linter.unusedVariables false
set_option maxHeartbeats 1000000 in
theorem szFrameS_longZ (a : Option Addr) (n c : Nat) (z0 : Int) (hz0 : 0 ≤ z0 ∧ z0 ≤ 1048576) (w : World) (hm : n ≤ maxLen) (h : z0 < (n : Int)) :
 Calls Tryz.prog 40 #[.slice a n c, .int .i64 z0] w fun e w' => e = .returned (.int .i64 (-1)) ∧ Below w.heap.size w w' := by
 unfold maxLen at hm
 have hd : decide (z0 - (n : Int) < 0) = true := by simp; omega
 go_enter Tryz.func40, Tryz.ntmps40
 go_wp2_with fail
 go_ret
 exact ⟨rfl, Below.refl _ _⟩
set_option maxHeartbeats 2000000 in
theorem szFrameS_someZ (b off n c : Nat) (M : Nat → FrT) (z0 : Int) (hz0 : 0 ≤ z0 ∧ z0 ≤ 1048576) (w : World) (hn : (n : Int) ≤ z0) (hf : Cs w b off (n * 6) (MFFrame M)) (hs : ∀ i, i < n → ((M i).2.2.2.2.2).size ≤ maxLen) :
 Calls Tryz.prog 40 #[.slice (some ⟨b, off, none⟩) n c, .int .i64 z0] w fun e w' => ∃ L : Int, e = .returned (.int .i64 L) ∧ (0 ≤ L → L ≤ z0 ∧ ∀ i, i < n → ((M i).2.2.2.2.2).size ≤ 1048576) ∧ Below w.heap.size w w' := by
 have hd : decide (z0 - (n : Int) < 0) = false := by simp; omega
 have HS : Hid (∀ i, i < n → ((M i).2.2.2.2.2).size ≤ maxLen) := hs
 clear hs
 go_enter Tryz.func40, Tryz.ntmps40
 go_wp2_with fail
 go_loopw [1, 5] (fun l i wr => ∃ (k : Nat) (L : Int), k ≤ n ∧ i = .int .i64 k ∧ l = .int .i64 L ∧ 0 ≤ L ∧ L ≤ z0 ∧ (∀ i, i < k → ((M i).2.2.2.2.2).size ≤ 1048576) ∧ Below w.heap.size w wr) (fun _ i _ => n - (intOf i).toNat)
 case atStart => exact ⟨0, _, Nat.zero_le _, rfl, rfl, by omega, by omega, fun i hi => absurd hi (Nat.not_lt_zero _), Below.refl _ _⟩
 case round =>
  obtain ⟨k, L, hk, rfl, rfl, L0, L1, hall, hB⟩ := hrel
  have HA : Hid (∀ i, i < k → ((M i).2.2.2.2.2).size ≤ 1048576) := hall
  clear hall
  by_cases hlt : k < n
  ·obtain ⟨x0, x1, x2, x3, x4, x5, hM⟩ := tupFrame M k
   obtain ⟨c0, c1, c2, c3, c4, c5⟩ := (hf.below hB hf.1).elFrame hlt hM
   have hx := HS.out k hlt
   rw [hM] at hx
   have hli : (k : Int) < (n : Int) := by omega
   by_cases hle : (x5.size : Int) ≤ L
   ·go_wp2_with fail
    refine (szFrame_left x0 x1 x2 x3 x4 x5 L _ hx L0 (Int.le_trans L1 hz0.2)).mono ?_
    rintro e w' ⟨rfl, hb⟩
    rw [if_pos hle]
    have hnl : ¬ L - (x5.size : Int) < 0 := by omega
    go_wp2_with fail
    go_roundw
    case rel =>
     refine ⟨k + 1, _, by omega, by go_num, rfl, by omega, by omega, fun i hi => ?_, hB.trans (hb.mono hB.size)⟩
     by_cases e : i = k
     ·subst e; rw [hM]; show x5.size ≤ 1048576; omega
     ·exact HA.out i (by omega)
    case measure => simp [intOf]; omega
   ·have HL : Hid (¬ (x5.size : Int) ≤ L) := hle
    go_wp2_with fail
    refine (szFrame_left x0 x1 x2 x3 x4 x5 L _ hx L0 (Int.le_trans L1 hz0.2)).mono ?_
    rintro e w' ⟨rfl, hb⟩
    rw [if_neg (Int.not_le.2 HL.out)]
    go_wp2_with fail
    go_ret
    exact ⟨-1, rfl, fun h => absurd h (by decide), hB.trans (hb.mono hB.size)⟩
  ·have hkn : k = n := by omega
   subst hkn
   have hli : ¬ (k : Int) < (k : Int) := by omega
   go_wp2_with fail
   go_ret
   exact ⟨L, rfl, fun _ => ⟨L1, HA.out⟩, hB⟩
set_option maxHeartbeats 1000000 in
theorem szFrameS_zeroZ (a : Option Addr) (c : Nat) (z0 : Int) (hz0 : 0 ≤ z0 ∧ z0 ≤ 1048576) (w : World) :
 Calls Tryz.prog 40 #[.slice a 0 c, .int .i64 z0] w fun e w' => e = .returned (.int .i64 z0) ∧ Below w.heap.size w w' := by
 go_enter Tryz.func40, Tryz.ntmps40
 go_wp2_with fail
 go_loopw [1, 5] (fun l i wr => i = .int .i64 0 ∧ l = .int .i64 z0 ∧ w = wr) (fun _ i _ => 0)
 case atStart => exact ⟨rfl, rfl, by first | rfl | trivial⟩
 case round =>
  obtain ⟨rfl, rfl, rfl⟩ := hrel
  go_wp2_with fail
  go_ret
  exact ⟨rfl, Below.refl _ _⟩
theorem szFrameS_at (a : Option Addr) (n c : Nat) (M : Nat → FrT) (z0 : Int) (hz0 : 0 ≤ z0 ∧ z0 ≤ 1048576) (w : World) (hm : n ≤ maxLen) (h : SrcC w a (n * 6) (MFFrame M)) (hs : ∀ i, i < n → ((M i).2.2.2.2.2).size ≤ maxLen) :
 Calls Tryz.prog 40 #[.slice a n c, .int .i64 z0] w fun e w' => ∃ L : Int, e = .returned (.int .i64 L) ∧ (0 ≤ L → L ≤ z0 ∧ n ≤ 1048576 ∧ ∀ i, i < n → ((M i).2.2.2.2.2).size ≤ 1048576) ∧ Below w.heap.size w w' := by
 by_cases hl : z0 < (n : Int)
 ·exact (szFrameS_longZ a n c z0 hz0 w hm hl).mono fun e w' ⟨h1, h2⟩ => ⟨-1, h1, fun h => absurd h (by decide), h2⟩
 ·rcases h with h0 | ⟨b, off, rfl, hf⟩
  ·have hn0 : n = 0 := by omega
   subst hn0
   exact (szFrameS_zeroZ a c z0 hz0 w).mono fun e w' ⟨h1, h2⟩ => ⟨_, h1, fun _ => ⟨Int.le_refl _, by omega, fun i hi => absurd hi (Nat.not_lt_zero _)⟩, h2⟩
  ·exact (szFrameS_someZ b off n c M z0 hz0 w (by omega) hf hs).mono fun e w' ⟨L, h1, h2, h3⟩ => ⟨L, h1, fun h => ⟨(h2 h).1, by omega, (h2 h).2⟩, h3⟩
def mkFrameQ (q0 : Int) (c : Nat) : Value := if c % 6 = 5 then .string (txt (q0 + (c : Int))) else .int .i64 (q0 + (c : Int))
theorem mkFrameQ_i {q0 : Int} {k j : Nat} {x : Int} (hj : j < 6) (hs : j ≠ 5) (h : x = q0 + ((k * 6 + j : Nat) : Int)) : mkFrameQ q0 (k * 6 + j) = .int .i64 x := by
 have e : (k * 6 + j) % 6 = j := by omega
 rw [mkFrameQ, e, if_neg (by omega), h]
theorem mkFrameQ_s {q0 : Int} {k j : Nat} {x : Int} (hj : j < 6) (hs : j = 5) (h : x = q0 + ((k * 6 + j : Nat) : Int)) : mkFrameQ q0 (k * 6 + j) = .string (txt x) := by
 have e : (k * 6 + j) % 6 = j := by omega
 rw [mkFrameQ, e, if_pos (by omega), h]
set_option maxHeartbeats 400000 in
theorem markFrameS_zeroQ (a : Option Addr) (c : Nat) (q0 : Int) (w : World) :
 Calls Tryz.prog 68 #[.slice a 0 c, .int .i64 q0] w fun e w' => e = .returned (.int .i64 q0) ∧ w = w' := by
 go_enter Tryz.func68, Tryz.ntmps68
 go_wp2_with fail
 go_loopw [1, 5] (fun q i wr => i = .int .i64 0 ∧ q = .int .i64 q0 ∧ w = wr) (fun _ i _ => 0)
 case atStart => exact ⟨rfl, rfl, by first | rfl | trivial⟩
 case round =>
  obtain ⟨rfl, rfl, rfl⟩ := hrel
  go_wp2_with fail
  go_ret
  exact ⟨rfl, rfl⟩
end Go.Proofs.YtddijpjgkifngaaGreat
