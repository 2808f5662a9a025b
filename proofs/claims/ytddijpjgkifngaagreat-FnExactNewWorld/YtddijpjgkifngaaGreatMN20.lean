/- Plans: what the laws make of them. What the laws of chapter 16 make of -/
import Derived.Test.YtddijpjgkifngaaGreatMN11
import Derived.Test.YtddijpjgkifngaaGreatMN14
namespace Go.Proofs.YtddijpjgkifngaaGreat
open Go.RowKit
set_option linter.unusedVariables false
set_option maxRecDepth 100000
set_option maxHeartbeats 16000000
theorem ix (ep us : Int) (a : Option Addr) (n c : Nat) (M : Nat → SlT) (w : World) (hn : n ≤ 1048576) (h : ae w a (n * 2) (ak M)) :
 Calls Tryz.prog 60 #[.agg #[.int .i64 ep, .int .i64 us, .slice a n c]] w fun e w' => e = .returned (.agg #[.int .i64 ep, .int .i64 us, .slice (some ⟨w.heap.size + 3, 0, none⟩) n n]) ∧ ao w' (w.heap.size + 3) 173 (n * 2) (n * 2) (ak M) ∧ Below w.heap.size w w' := by
 have A0 := ((Below.nw w (.cells #[.int .i64 ep, .int .i64 us, .slice a n c] 26)).alloc (by simp) (.cells #[.int .i64 0, .int .i64 0, .slice none 0 0] 43)).alloc (by simp; omega) (.cells #[.int .i64 ep, .int .i64 us, .slice none 0 0] 43)
 have z3 : (((w.alloc (.cells #[.int .i64 ep, .int .i64 us, .slice a n c] 26)).alloc (.cells #[.int .i64 0, .int .i64 0, .slice none 0 0] 43)).alloc (.cells #[.int .i64 ep, .int .i64 us, .slice none 0 0] 43)).heap.size = w.heap.size + 3 := by simp
 have C := gG a n c M _ hn (h.below A0)
 rw [z3] at C
 have r0 : (((w.alloc (.cells #[.int .i64 ep, .int .i64 us, .slice a n c] 26)).alloc (.cells #[.int .i64 0, .int .i64 0, .slice none 0 0] 43)).alloc (.cells #[.int .i64 ep, .int .i64 us, .slice none 0 0] 43)).cell? ⟨w.heap.size + 1, 0, none⟩ = some (.int .i64 0) := by simp [go_sem]
 have f0 : (((w.alloc (.cells #[.int .i64 ep, .int .i64 us, .slice a n c] 26)).alloc (.cells #[.int .i64 0, .int .i64 0, .slice none 0 0] 43)).alloc (.cells #[.int .i64 ep, .int .i64 us, .slice none 0 0] 43)).frozen? ⟨w.heap.size + 1, 0, none⟩ = false := by simp [go_sem]
 have r1 : (((w.alloc (.cells #[.int .i64 ep, .int .i64 us, .slice a n c] 26)).alloc (.cells #[.int .i64 0, .int .i64 0, .slice none 0 0] 43)).alloc (.cells #[.int .i64 ep, .int .i64 us, .slice none 0 0] 43)).cell? ⟨w.heap.size + 1, 1, none⟩ = some (.int .i64 0) := by simp [go_sem]
 have f1 : (((w.alloc (.cells #[.int .i64 ep, .int .i64 us, .slice a n c] 26)).alloc (.cells #[.int .i64 0, .int .i64 0, .slice none 0 0] 43)).alloc (.cells #[.int .i64 ep, .int .i64 us, .slice none 0 0] 43)).frozen? ⟨w.heap.size + 1, 1, none⟩ = false := by simp [go_sem]
 have r2 : (((w.alloc (.cells #[.int .i64 ep, .int .i64 us, .slice a n c] 26)).alloc (.cells #[.int .i64 0, .int .i64 0, .slice none 0 0] 43)).alloc (.cells #[.int .i64 ep, .int .i64 us, .slice none 0 0] 43)).cell? ⟨w.heap.size + 1, 2, none⟩ = some (.slice none 0 0) := by simp [go_sem]
 have f2 : (((w.alloc (.cells #[.int .i64 ep, .int .i64 us, .slice a n c] 26)).alloc (.cells #[.int .i64 0, .int .i64 0, .slice none 0 0] 43)).alloc (.cells #[.int .i64 ep, .int .i64 us, .slice none 0 0] 43)).frozen? ⟨w.heap.size + 1, 2, none⟩ = false := by simp [go_sem]
 have o0 : (((w.alloc (.cells #[.int .i64 ep, .int .i64 us, .slice a n c] 26)).alloc (.cells #[.int .i64 0, .int .i64 0, .slice none 0 0] 43)).alloc (.cells #[.int .i64 ep, .int .i64 us, .slice none 0 0] 43)).cell? ⟨w.heap.size + 1 + 1, 0, none⟩ = some (.int .i64 ep) := by simp [go_sem]
 have o1 : (((w.alloc (.cells #[.int .i64 ep, .int .i64 us, .slice a n c] 26)).alloc (.cells #[.int .i64 0, .int .i64 0, .slice none 0 0] 43)).alloc (.cells #[.int .i64 ep, .int .i64 us, .slice none 0 0] 43)).cell? ⟨w.heap.size + 1 + 1, 1, none⟩ = some (.int .i64 us) := by simp [go_sem]
 have o2 : (((w.alloc (.cells #[.int .i64 ep, .int .i64 us, .slice a n c] 26)).alloc (.cells #[.int .i64 0, .int .i64 0, .slice none 0 0] 43)).alloc (.cells #[.int .i64 ep, .int .i64 us, .slice none 0 0] 43)).cell? ⟨w.heap.size + 1 + 1, 2, none⟩ = some (.slice none 0 0) := by simp [go_sem]
 have g2 : (((w.alloc (.cells #[.int .i64 ep, .int .i64 us, .slice a n c] 26)).alloc (.cells #[.int .i64 0, .int .i64 0, .slice none 0 0] 43)).alloc (.cells #[.int .i64 ep, .int .i64 us, .slice none 0 0] 43)).frozen? ⟨w.heap.size + 1 + 1, 2, none⟩ = false := by simp [go_sem]
 clear h
 go_enter Tryz.func60, Tryz.ntmps60
 go_wp2_with fail
 refine C.mono ?_
 rintro e w1 ⟨rfl, R1, hb⟩
 have l3 := R1.lt
 have q0 := (hb.cell (p := ⟨w.heap.size + 1, 0, none⟩) (by simp)).trans r0
 have k0 := (hb.frozen (p := ⟨w.heap.size + 1, 0, none⟩) (by simp)).trans f0
 have q1 := (hb.cell (p := ⟨w.heap.size + 1, 1, none⟩) (by simp)).trans r1
 have k1 := (hb.frozen (p := ⟨w.heap.size + 1, 1, none⟩) (by simp)).trans f1
 have q2 := (hb.cell (p := ⟨w.heap.size + 1, 2, none⟩) (by simp)).trans r2
 have k2 := (hb.frozen (p := ⟨w.heap.size + 1, 2, none⟩) (by simp)).trans f2
 have p0 := (hb.cell (p := ⟨w.heap.size + 1 + 1, 0, none⟩) (by simp)).trans o0
 have p1 := (hb.cell (p := ⟨w.heap.size + 1 + 1, 1, none⟩) (by simp)).trans o1
 have p2 := (hb.cell (p := ⟨w.heap.size + 1 + 1, 2, none⟩) (by simp)).trans o2
 have j2 := (hb.frozen (p := ⟨w.heap.size + 1 + 1, 2, none⟩) (by simp)).trans g2
 have B1 := A0.trans (hb.mono (by omega))
 have RF : ao ((((w1.setCell ⟨w.heap.size + 1 + 1, 2, none⟩ (.slice (some ⟨w.heap.size + 3, 0, none⟩) n n)).setCell ⟨w.heap.size + 1, 0, none⟩ (.int .i64 ep)).setCell ⟨w.heap.size + 1, 1, none⟩ (.int .i64 us)).setCell ⟨w.heap.size + 1, 2, none⟩ (.slice (some ⟨w.heap.size + 3, 0, none⟩) n n)) (w.heap.size + 3) 173 (n * 2) (n * 2) (ak M) := (((R1.setO (by omega) _ _).setO (by omega) _ _).setO (by omega) _ _).setO (by omega) _ _
 have BF : Below w.heap.size w ((((w1.setCell ⟨w.heap.size + 1 + 1, 2, none⟩ (.slice (some ⟨w.heap.size + 3, 0, none⟩) n n)).setCell ⟨w.heap.size + 1, 0, none⟩ (.int .i64 ep)).setCell ⟨w.heap.size + 1, 1, none⟩ (.int .i64 us)).setCell ⟨w.heap.size + 1, 2, none⟩ (.slice (some ⟨w.heap.size + 3, 0, none⟩) n n)) := (((B1.setCell (by simp; omega) _).setCell (by simp) _).setCell (by simp) _).setCell (by simp) _
 have s1 : w.heap.size + 1 < w1.heap.size := by omega
 have s2 : w.heap.size + 1 + 1 < w1.heap.size := by omega
 clear hb C r0 r1 r2 o0 o1 o2 f0 f1 f2 g2 A0 z3 R1 B1
 go_wp2_with fail
 exact bodyPost_ret (v := .agg #[.int .i64 ep, .int .i64 us, .slice (some ⟨w.heap.size + 3, 0, none⟩) n n]) (by simp (maxDischargeDepth := 6) [results, Tryz.results60, go_sem, *]) rfl ⟨rfl, RF, BF⟩
theorem fW (ep us : Int) (a a' : Option Addr) (n c c' : Nat) (M : Nat → SlT) (w : World) (hn : n ≤ maxLen) (h : ae w a (n * 2) (ak M)) (h' : ae w a' (n * 2) (ak M)) :
 Calls Tryz.prog 64 #[.agg #[.int .i64 ep, .int .i64 us, .slice a n c], .agg #[.int .i64 ep, .int .i64 us, .slice a' n c']] w fun e w' => e = .returned (.bool true) ∧ Below w.heap.size w w' := by
 have A0 := (Below.nw w (.cells #[.int .i64 ep, .int .i64 us, .slice a n c] 43)).alloc (by simp) (.cells #[.int .i64 ep, .int .i64 us, .slice a' n c'] 43)
 have C := fX a a' n c c' M _ hn (h.below A0) (h'.below A0)
 clear h h'
 go_enter Tryz.func64, Tryz.ntmps64
 go_wp2_with fail
 refine C.mono ?_
 rintro e w1 ⟨rfl, hb⟩
 go_wp2_with fail
 go_ret
 exact ⟨rfl, A0.trans (hb.mono A0.size)⟩
theorem fd (ep us : Int) (a : Option Addr) (n c : Nat) (w : World) (hn : n ≤ 1048576) (h : ae w a (n * 2) (aQ 1)) :
 Calls Tryz.prog 123 #[.agg #[.int .i64 ep, .int .i64 us, .slice a n c], .int .i64 1] w fun e w' => e = .returned (.int .i64 (1 + (n : Int) * 2)) ∧ Below w.heap.size w w' := by
 have A0 := Below.nw w (.cells #[.int .i64 ep, .int .i64 us, .slice a n c] 43)
 have C := ef a n c 1 _ hn (by omega) (by omega) (h.below A0)
 have hk : ¬ (1 + (n : Int) * 2 < 0) := by omega
 clear h
 go_enter Tryz.func123, Tryz.ntmps123
 go_wp2_with fail
 refine C.mono ?_
 rintro e w1 ⟨rfl, rfl⟩
 go_wp2_with fail
 go_ret
 exact ⟨rfl, A0⟩
theorem jh (ep us : Int) (a : Option Addr) (n c : Nat) (Z : Int) (w : World) (hm : n ≤ maxLen) (h0 : 0 ≤ Z) (h1 : Z ≤ 1048576) :
 Calls Tryz.prog 56 #[.agg #[.int .i64 ep, .int .i64 us, .slice a n c], .int .i64 Z] w fun e w' => ∃ L : Int, e = .returned (.int .i64 L) ∧ (0 ≤ L → n ≤ 1048576 ∧ L ≤ 1048576) ∧ Below w.heap.size w w' := by
 have A0 := Below.nw w (.cells #[.int .i64 ep, .int .i64 us, .slice a n c] 26)
 by_cases h : (n : Int) ≤ Z
 ·have hneg : ¬ (Z - (n : Int) < 0) := by omega
  go_enter Tryz.func56, Tryz.ntmps56
  go_wp2_with fail
  refine (cN _ _ _ _ _ hm h0 h1).mono ?_
  rintro e w1 ⟨rfl, rfl⟩
  rw [if_pos h]
  go_wp2_with fail
  go_ret
  exact ⟨_, rfl, fun _ => ⟨by omega, by omega⟩, A0⟩
 ·go_enter Tryz.func56, Tryz.ntmps56
  go_wp2_with fail
  refine (cN _ _ _ _ _ hm h0 h1).mono ?_
  rintro e w1 ⟨rfl, rfl⟩
  rw [if_neg (Int.not_le.2 h)]
  go_wp2_with fail
  go_ret
  exact ⟨_, rfl, fun h => absurd h (by decide), A0⟩
theorem dj.kept {w w' : World} {q : Option Nat} {j : Nat} {k fr tu no lo hi sl : Int} {s : ByteArray} (h : dj w j k fr tu no lo hi sl s) (hg : w.grownBy w' q) (hq : some j ≠ q) : dj w' j k fr tu no lo hi sl s := by
 obtain ⟨h0, h1, h2, h3, h4, h5, h6, h7, h8⟩ := h
 have cc : ∀ i, w'.cell? ⟨j, i, none⟩ = w.cell? ⟨j, i, none⟩ := fun i => bK hg h0 hq
 exact ⟨Nat.lt_of_lt_of_le h0 hg.size, by rw [cc]; exact h1, by rw [cc]; exact h2, by rw [cc]; exact h3, by rw [cc]; exact h4, by rw [cc]; exact h5, by rw [cc]; exact h6, by rw [cc]; exact h7, by rw [cc]; exact h8⟩
theorem jS (dn dd li le pt ag ke lg s g : Int) (p : Option Addr) (m d : Nat) (PM : Nat → SlT) (Z : Int) (w : World) (hm : m ≤ maxLen) (h0 : 0 ≤ Z) (h1 : Z ≤ 1048576) :
 Calls Tryz.prog 13 #[.agg #[.int .i64 dn, .int .i64 dd, .int .i64 li, .int .i64 le, .int .i64 pt, .int .i64 ag, .int .i64 ke, .int .i64 lg, .int .i64 s, .int .i64 g, .slice p m d], .int .i64 Z] w fun e w' => ∃ L : Int, e = .returned (.int .i64 L) ∧ (0 ≤ L → m ≤ 1048576 ∧ L ≤ 1048576) ∧ Below w.heap.size w w' := by
 have B := Below.nw w (.cells #[.int .i64 dn, .int .i64 dd, .int .i64 li, .int .i64 le, .int .i64 pt, .int .i64 ag, .int .i64 ke, .int .i64 lg, .int .i64 s, .int .i64 g, .slice p m d] 28)
 have C := aB.new w (.int .i64 dn) (.int .i64 dd) (.int .i64 li) (.int .i64 le) (.int .i64 pt) (.int .i64 ag) (.int .i64 ke) (.int .i64 lg) (.int .i64 s) (.int .i64 g) (.slice p m d) 28
 have C1 := fun w' => jh s g p m d Z w' hm h0 h1
 go_enter Tryz.func13, Tryz.ntmps13
 go_upto_region 1 with fail
 generalize w.alloc (.cells #[.int .i64 dn, .int .i64 dd, .int .i64 li, .int .i64 le, .int .i64 pt, .int .i64 ag, .int .i64 ke, .int .i64 lg, .int .i64 s, .int .i64 g, .slice p m d] 28) = v at *
 have x0 : _ ∧ _ := C
 go_wp2_with fail
 refine (C1 _).mono ?_
 rintro e v1 ⟨L, rfl, hL, hb⟩
 clear x0
 replace B := B.trans (hb.mono B.size)
 clear hb C C1
 by_cases hz : L < 0
 ·go_wp2_with fail
  go_ret
  exact ⟨-1, rfl, fun h => absurd h (by decide), B⟩
 ·have HL : Hid (0 ≤ L → m ≤ 1048576 ∧ L ≤ 1048576) := hL
  clear hL
  go_wp2_with fail
  go_ret
  exact ⟨L, rfl, HL.out, B⟩
theorem gS (dn dd li le pt ag ke lg s g : Int) (p : Option Addr) (m d : Nat) (PM : Nat → SlT) (p' : Option Addr) (d' : Nat) (w : World) (hm : m ≤ maxLen) (h : ae w p (m * 2) (ak PM)) (h' : ae w p' (m * 2) (ak PM)) :
 Calls Tryz.prog 18 #[.agg #[.int .i64 dn, .int .i64 dd, .int .i64 li, .int .i64 le, .int .i64 pt, .int .i64 ag, .int .i64 ke, .int .i64 lg, .int .i64 s, .int .i64 g, .slice p m d], .agg #[.int .i64 dn, .int .i64 dd, .int .i64 li, .int .i64 le, .int .i64 pt, .int .i64 ag, .int .i64 ke, .int .i64 lg, .int .i64 s, .int .i64 g, .slice p' m d']] w fun e w' => e = .returned (.bool true) ∧ Below w.heap.size w w' := by
 have A0 := Below.nw w (.cells #[.int .i64 dn, .int .i64 dd, .int .i64 li, .int .i64 le, .int .i64 pt, .int .i64 ag, .int .i64 ke, .int .i64 lg, .int .i64 s, .int .i64 g, .slice p m d] 45)
 have A1 := Below.nw (w.alloc (.cells #[.int .i64 dn, .int .i64 dd, .int .i64 li, .int .i64 le, .int .i64 pt, .int .i64 ag, .int .i64 ke, .int .i64 lg, .int .i64 s, .int .i64 g, .slice p m d] 45)) (.cells #[.int .i64 dn, .int .i64 dd, .int .i64 li, .int .i64 le, .int .i64 pt, .int .i64 ag, .int .i64 ke, .int .i64 lg, .int .i64 s, .int .i64 g, .slice p' m d'] 45)
 have C := (aB.new w (.int .i64 dn) (.int .i64 dd) (.int .i64 li) (.int .i64 le) (.int .i64 pt) (.int .i64 ag) (.int .i64 ke) (.int .i64 lg) (.int .i64 s) (.int .i64 g) (.slice p m d) 45).below A1
 have X := aB.new (w.alloc (.cells #[.int .i64 dn, .int .i64 dd, .int .i64 li, .int .i64 le, .int .i64 pt, .int .i64 ag, .int .i64 ke, .int .i64 lg, .int .i64 s, .int .i64 g, .slice p m d] 45)) (.int .i64 dn) (.int .i64 dd) (.int .i64 li) (.int .i64 le) (.int .i64 pt) (.int .i64 ag) (.int .i64 ke) (.int .i64 lg) (.int .i64 s) (.int .i64 g) (.slice p' m d') 45
 have B := A0.trans (A1.mono A0.size)
 simp only [World.size_alloc] at X
 clear A0 A1
 have C1 := fun w' => eO dn dd w'
 have C2 := fun (w' : World) (hb : Below w.heap.size w w') => fW s g p p' m d d' PM w' hm (h.below hb) (h'.below hb)
 clear h h'
 go_enter Tryz.func18, Tryz.ntmps18
 go_upto_region 1 with fail
 generalize (w.alloc (.cells #[.int .i64 dn, .int .i64 dd, .int .i64 li, .int .i64 le, .int .i64 pt, .int .i64 ag, .int .i64 ke, .int .i64 lg, .int .i64 s, .int .i64 g, .slice p m d] 45)).alloc (.cells #[.int .i64 dn, .int .i64 dd, .int .i64 li, .int .i64 le, .int .i64 pt, .int .i64 ag, .int .i64 ke, .int .i64 lg, .int .i64 s, .int .i64 g, .slice p' m d'] 45) = v at *
 have x0 : _ ∧ _ := C
 have u0 : _ ∧ _ := X
 go_wp2_with fail
 refine (C1 _).mono ?_
 rintro e v1 ⟨rfl, hb⟩
 clear x0
 clear u0
 replace B := B.trans (hb.mono B.size)
 replace C := C.below hb
 replace X := X.below hb
 clear hb C1
 have x0 : _ ∧ _ := C
 have u0 : _ ∧ _ := X
 have e1 : (li != li) = false := by simp
 have e2 : (le != le) = false := by simp
 have e3 : (pt != pt) = false := by simp
 have e4 : (ag != ag) = false := by simp
 have e5 : (ke != ke) = false := by simp
 have e6 : (lg != lg) = false := by simp
 go_wp2_with fail
 refine (C2 _ B).mono ?_
 rintro e v2 ⟨rfl, hb⟩
 clear x0
 clear u0
 replace B := B.trans (hb.mono B.size)
 clear hb C X C2
 go_wp2_with fail
 go_ret
 exact ⟨rfl, B⟩
end Go.Proofs.YtddijpjgkifngaaGreat
