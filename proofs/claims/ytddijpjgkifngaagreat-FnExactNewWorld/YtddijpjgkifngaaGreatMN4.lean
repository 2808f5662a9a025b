/- Flights: contracts of what asks whether one is right; what the laws ma -/
import Derived.Maps.OwnSet
import Derived.Test.YtddijpjgkifngaaGreatMN0
import Derived.Test.YtddijpjgkifngaaGreatMN1
import Derived.Test.YtddijpjgkifngaaGreatMN2
namespace Go.Proofs.YtddijpjgkifngaaGreat
open Go.RowKit
set_option linter.unusedVariables false
set_option maxRecDepth 100000
set_option maxHeartbeats 16000000
def FT : Type := Int × Int × Int × ByteArray × Int
def zF : FT := (0, 0, 0, ⟨#[]⟩, 0)
def fT (x0 x1 x2 : Int) (x3 : ByteArray) (x4 : Int) : FT := (x0, x1, x2, x3, x4)
def tmB (t : Int) : Bool := decide (0 ≤ t ∧ t ≤ 1000000000000)
def flB (x1 x2 : Int) (x3 : ByteArray) (x4 : Int) : Bool := aO x1 && aO x2 && decide (x3.size ≤ 64) && tmB x4
def flT (M : FT) : Bool := flB M.2.1 M.2.2.1 M.2.2.2.1 M.2.2.2.2
theorem bj (n : Int) (w : World) :
 Calls Tryz.prog 99 #[.int .i64 n] w fun e w' => e = .returned (.bool (tmB n)) ∧ w = w' := by
 go_enter Tryz.func99, Tryz.ntmps99
 go_wp2
 all_goals go_ret
 all_goals exact ⟨ab (by rw [Bool.eq_iff_iff]; simp [tmB]; try omega), rfl⟩
theorem aR (n : Int) (w : World) :
 Calls Tryz.prog 43 #[.int .i64 n] w fun e w' => e = .returned (.bool (tmB n)) ∧ w = w' := by
 go_enter Tryz.func43, Tryz.ntmps43
 go_wp2_with (first | (go_at_call 42; refine (al _ _ _ _).mono ?_; rintro e w' ⟨rfl, rfl⟩))
 go_ret
 exact ⟨ab (by simp [tmB]), rfl⟩
def cO (w : World) (j : Nat) (x0 x1 x2 : Int) (x3 : ByteArray) (x4 : Int) : Prop := j < w.heap.size ∧ w.cell? ⟨j, 0, none⟩ = some (.int .i64 x0) ∧ w.cell? ⟨j, 1, none⟩ = some (.int .i64 x1) ∧ w.cell? ⟨j, 2, none⟩ = some (.int .i64 x2) ∧ w.cell? ⟨j, 3, none⟩ = some (.string x3) ∧ w.cell? ⟨j, 4, none⟩ = some (.int .i64 x4)
theorem cO.belowB {j B : Nat} {w w' : World} {x0 x1 x2 : Int} {x3 : ByteArray} {x4 : Int} (h : cO w j x0 x1 x2 x3 x4) (hw : Below B w w') (hk : j < B) : cO w' j x0 x1 x2 x3 x4 := by
 obtain ⟨h0, h1, h2, h3, h4, h5⟩ := h
 exact ⟨Nat.lt_of_lt_of_le h0 hw.size, by rw [hw.cell (p := ⟨j, 0, none⟩) hk]; exact h1, by rw [hw.cell (p := ⟨j, 1, none⟩) hk]; exact h2, by rw [hw.cell (p := ⟨j, 2, none⟩) hk]; exact h3, by rw [hw.cell (p := ⟨j, 3, none⟩) hk]; exact h4, by rw [hw.cell (p := ⟨j, 4, none⟩) hk]; exact h5⟩
theorem cO.below {j : Nat} {w w' : World} {x0 x1 x2 : Int} {x3 : ByteArray} {x4 : Int} (h : cO w j x0 x1 x2 x3 x4) (hw : Below w.heap.size w w') : cO w' j x0 x1 x2 x3 x4 := h.belowB hw h.1
theorem cO.new (w : World) (x0 x1 x2 : Int) (x3 : ByteArray) (x4 : Int) (T : TypeId) : cO (w.alloc (.cells #[.int .i64 x0, .int .i64 x1, .int .i64 x2, .string x3, .int .i64 x4] T)) w.heap.size x0 x1 x2 x3 x4 := ⟨by simp, by simp, by simp, by simp, by simp, by simp⟩
theorem bL (x0 x1 x2 : Int) (x3 : ByteArray) (x4 : Int) (w : World) (hs : x3.size ≤ maxLen) :
 Calls Tryz.prog 84 #[.agg #[.int .i64 x0, .int .i64 x1, .int .i64 x2, .string x3, .int .i64 x4]] w fun e w' => e = .returned (.bool (flB x1 x2 x3 x4)) ∧ Below w.heap.size w w' := by
 unfold maxLen at hs
 have B0 := Below.nw w (.cells #[.int .i64 x0, .int .i64 x1, .int .i64 x2, .string x3, .int .i64 x4] 101)
 cases h1 : aO x1
 ·go_enter Tryz.func84, Tryz.ntmps84
  go_wp2_with fail
  refine (an _ _).mono ?_
  rintro e w' ⟨rfl, rfl⟩
  rw [h1]
  go_wp2_with fail
  go_ret
  exact ⟨ab (by simp [flB, h1]), B0⟩
 ·cases h2 : aO x2
  ·go_enter Tryz.func84, Tryz.ntmps84
   go_wp2_with fail
   refine (an _ _).mono ?_
   rintro e w' ⟨rfl, rfl⟩
   rw [h1]
   go_wp2_with fail
   refine (an _ _).mono ?_
   rintro e w' ⟨rfl, rfl⟩
   rw [h2]
   go_wp2_with fail
   go_ret
   exact ⟨ab (by simp [flB, h2]), B0⟩
  ·by_cases h3 : (x3.size : Int) ≤ 64
   ·have h3n : x3.size ≤ 64 := by omega
    go_enter Tryz.func84, Tryz.ntmps84
    go_wp2_with fail
    refine (an _ _).mono ?_
    rintro e w' ⟨rfl, rfl⟩
    rw [h1]
    go_wp2_with fail
    refine (an _ _).mono ?_
    rintro e w' ⟨rfl, rfl⟩
    rw [h2]
    go_wp2_with fail
    refine (aR _ _).mono ?_
    rintro e w' ⟨rfl, rfl⟩
    go_wp2_with fail
    go_ret
    exact ⟨ab (by simp [flB, h1, h2, h3n]), B0⟩
   ·have h3n : ¬ x3.size ≤ 64 := by omega
    have HN : Hid (flB x1 x2 x3 x4 = false) := by simp [Hid, flB, h3n]
    go_enter Tryz.func84, Tryz.ntmps84
    go_wp2_with fail
    refine (an _ _).mono ?_
    rintro e w' ⟨rfl, rfl⟩
    rw [h1]
    go_wp2_with fail
    refine (an _ _).mono ?_
    rintro e w' ⟨rfl, rfl⟩
    rw [h2]
    go_wp2_with fail
    go_ret
    exact ⟨ab HN.out.symm, B0⟩
theorem e8 (x0 x1 x2 : Int) (x3 : ByteArray) (x4 : Int) (w : World) (hs : x3.size ≤ maxLen) :
 Calls Tryz.prog 200 #[.agg #[.int .i64 x0, .int .i64 x1, .int .i64 x2, .string x3, .int .i64 x4]] w fun e w' => e = .returned (.bool (flB x1 x2 x3 x4)) ∧ Below w.heap.size w w' := by
 unfold maxLen at hs
 have B0 := Below.nw w (.cells #[.int .i64 x0, .int .i64 x1, .int .i64 x2, .string x3, .int .i64 x4] 101)
 cases h1 : aO x1
 ·go_enter Tryz.func200, Tryz.ntmps200
  go_wp2_with fail
  refine (au _ _).mono ?_
  rintro e w' ⟨rfl, rfl⟩
  rw [h1]
  go_wp2_with fail
  go_ret
  exact ⟨ab (by simp [flB, h1]), B0⟩
 ·cases h2 : aO x2
  ·go_enter Tryz.func200, Tryz.ntmps200
   go_wp2_with fail
   refine (au _ _).mono ?_
   rintro e w' ⟨rfl, rfl⟩
   rw [h1]
   go_wp2_with fail
   refine (au _ _).mono ?_
   rintro e w' ⟨rfl, rfl⟩
   rw [h2]
   go_wp2_with fail
   go_ret
   exact ⟨ab (by simp [flB, h2]), B0⟩
  ·by_cases h3 : (x3.size : Int) ≤ 64
   ·have h3n : x3.size ≤ 64 := by omega
    go_enter Tryz.func200, Tryz.ntmps200
    go_wp2_with fail
    refine (au _ _).mono ?_
    rintro e w' ⟨rfl, rfl⟩
    rw [h1]
    go_wp2_with fail
    refine (au _ _).mono ?_
    rintro e w' ⟨rfl, rfl⟩
    rw [h2]
    go_wp2_with fail
    refine (bj _ _).mono ?_
    rintro e w' ⟨rfl, rfl⟩
    go_wp2_with fail
    go_ret
    exact ⟨ab (by simp [flB, h1, h2, h3n]), B0⟩
   ·have h3n : ¬ x3.size ≤ 64 := by omega
    have HN : Hid (flB x1 x2 x3 x4 = false) := by simp [Hid, flB, h3n]
    go_enter Tryz.func200, Tryz.ntmps200
    go_wp2_with fail
    refine (au _ _).mono ?_
    rintro e w' ⟨rfl, rfl⟩
    rw [h1]
    go_wp2_with fail
    refine (au _ _).mono ?_
    rintro e w' ⟨rfl, rfl⟩
    rw [h2]
    go_wp2_with fail
    go_ret
    exact ⟨ab HN.out.symm, B0⟩
theorem dZ (x0 x1 x2 : Int) (x3 : ByteArray) (x4 : Int) (w : World) :
 Calls Tryz.prog 159 #[.agg #[.int .i64 x0, .int .i64 x1, .int .i64 x2, .string x3, .int .i64 x4], .agg #[.int .i64 x0, .int .i64 x1, .int .i64 x2, .string x3, .int .i64 x4]] w fun e w' => e = .returned (.bool true) ∧ Below w.heap.size w w' := by
 go_enter Tryz.func159, Tryz.ntmps159
 go_wp2_with fail
 go_ret
 exact ⟨rfl, by repeat (first | refine Below.alloc ?_ (by first | exact Nat.le_refl _ | (simp; done) | (simp; omega)) _ | exact Below.refl _ _)⟩
def KT : Type := Int × Int × Int × Int
theorem gR (x0 x1 x2 x3 : Int) (w : World) :
 Calls Tryz.prog 201 #[.agg #[.int .i64 x0, .int .i64 x1, .int .i64 x2, .int .i64 x3], .agg #[.int .i64 x0, .int .i64 x1, .int .i64 x2, .int .i64 x3]] w fun e w' => e = .returned (.bool true) ∧ Below w.heap.size w w' := by
 go_enter Tryz.func201, Tryz.ntmps201
 go_wp2_with fail
 go_ret
 exact ⟨rfl, by repeat (first | refine Below.alloc ?_ (by first | exact Nat.le_refl _ | (simp; done) | (simp; omega)) _ | exact Below.refl _ _)⟩
def kd (M : KT) : Nat → Value
 | 0 => .int .i64 M.1
 | 1 => .int .i64 M.2.1
 | 2 => .int .i64 M.2.2.1
 | _ => .int .i64 M.2.2.2
def aA (M : Nat → KT) (c : Nat) : Value := kd (M (c / 4)) (c % 4)
theorem cn (M : Nat → KT) (k j : Nat) (hj : j < 4) : aA M (k * 4 + j) = kd (M k) j := by
 have h1 : (k * 4 + j) / 4 = k := by omega
 have h2 : (k * 4 + j) % 4 = j := by omega
 rw [aA, h1, h2]
theorem gJ {M : Nat → KT} {k : Nat} {x0 : Int} {x1 : Int} {x2 : Int} {x3 : Int} (hM : M k = (x0, x1, x2, x3)) : aA M (k * 4) = .int .i64 x0 ∧ aA M (k * 4 + 1) = .int .i64 x1 ∧ aA M (k * 4 + 2) = .int .i64 x2 ∧ aA M (k * 4 + 3) = .int .i64 x3 :=
 ⟨by have q := cn M k 0 (by decide); rw [hM] at q; exact q, by have q := cn M k 1 (by decide); rw [hM] at q; exact q, by have q := cn M k 2 (by decide); rw [hM] at q; exact q, by have q := cn M k 3 (by decide); rw [hM] at q; exact q⟩
theorem Cs.elAsk {w : World} {b off n k : Nat} {M : Nat → KT} {x0 : Int} {x1 : Int} {x2 : Int} {x3 : Int} (h : Cs w b off (n * 4) (aA M)) (hk : k < n) (hM : M k = (x0, x1, x2, x3)) : w.cell? ⟨b, off + k * 4, none⟩ = some (.int .i64 x0) ∧ w.cell? ⟨b, off + k * 4 + 1, none⟩ = some (.int .i64 x1) ∧ w.cell? ⟨b, off + k * 4 + 2, none⟩ = some (.int .i64 x2) ∧ w.cell? ⟨b, off + k * 4 + 3, none⟩ = some (.int .i64 x3) := by
 obtain ⟨q0, q1, q2, q3⟩ := gJ hM
 exact ⟨by have := h.2 (k * 4) (by omega); rw [q0] at this; exact this, by have := h.2 (k * 4 + 1) (by omega); rw [q1] at this; exact this, by have := h.2 (k * 4 + 2) (by omega); rw [q2] at this; exact this, by have := h.2 (k * 4 + 3) (by omega); rw [q3] at this; exact this⟩
theorem bW (M : Nat → KT) (k : Nat) : ∃ (x0 : Int) (x1 : Int) (x2 : Int) (x3 : Int), M k = (x0, x1, x2, x3) := ⟨_, _, _, _, rfl⟩
theorem fM (b off b' off' n c c' : Nat) (M : Nat → KT) (w : World) (hn : n ≤ maxLen) (hf : Cs w b off (n * 4) (aA M)) (hg : Cs w b' off' (n * 4) (aA M)) :
 Calls Tryz.prog 186 #[.slice (some ⟨b, off, none⟩) n c, .slice (some ⟨b', off', none⟩) n c'] w fun e w' => e = .returned (.bool true) ∧ Below w.heap.size w w' := by
 unfold maxLen at hn
 go_enter Tryz.func186, Tryz.ntmps186
 go_wp2_with fail
 go_loopw [5] (fun i wr => ∃ k : Nat, k ≤ n ∧ i = .int .i64 k ∧ Below w.heap.size w wr) (fun i _ => n - (intOf i).toNat)
 case atStart => exact ⟨0, Nat.zero_le _, rfl, Below.refl _ _⟩
 case round =>
  obtain ⟨k, hk, rfl, hB⟩ := hrel
  by_cases hlt : k < n
  ·obtain ⟨x0, x1, x2, x3, hM⟩ := bW M k
   obtain ⟨c0, c1, c2, c3⟩ := (hf.below hB hf.1).elAsk hlt hM
   obtain ⟨d0, d1, d2, d3⟩ := (hg.below hB hg.1).elAsk hlt hM
   have hb1 : b < wr.drew.heap.size := Nat.lt_of_lt_of_le hf.1 hB.size
   have hb2 : b' < wr.drew.heap.size := Nat.lt_of_lt_of_le hg.1 hB.size
   have hsz : w.heap.size ≤ wr.drew.heap.size := hB.size
   have hli : (k : Int) < (n : Int) := by omega
   clear hM
   go_wp2_with fail
   refine wp_region_held_drew (S := (fun w' => w'.cell? ⟨b, off + k * 4, none⟩ = some (.int .i64 x0) ∧ w'.cell? ⟨b, off + k * 4 + 1, none⟩ = some (.int .i64 x1) ∧ w'.cell? ⟨b, off + k * 4 + 2, none⟩ = some (.int .i64 x2) ∧ w'.cell? ⟨b, off + k * 4 + 3, none⟩ = some (.int .i64 x3) ∧ w'.cell? ⟨b', off' + k * 4, none⟩ = some (.int .i64 x0) ∧ w'.cell? ⟨b', off' + k * 4 + 1, none⟩ = some (.int .i64 x1) ∧ w'.cell? ⟨b', off' + k * 4 + 2, none⟩ = some (.int .i64 x2) ∧ w'.cell? ⟨b', off' + k * 4 + 3, none⟩ = some (.int .i64 x3))) (by kernel_rfl) ?_ (fun hHeld => ?_)
   ·first | exact ⟨c0, c1, c2, c3, d0, d1, d2, d3⟩ | (simp (maxDischargeDepth := 6) [go_sem, *]; done)
   refine zT8 0 ?_
   refine zQ 8 fun K hK => ?_
   go_simp
   refine (gR _ _ _ _ _).mono ?_; rintro e w' ⟨rfl, hb⟩; (replace c0 := (hb.cell (p := ⟨b, off + k * 4, none⟩) hb1).trans c0); (replace c1 := (hb.cell (p := ⟨b, off + k * 4 + 1, none⟩) hb1).trans c1); (replace c2 := (hb.cell (p := ⟨b, off + k * 4 + 2, none⟩) hb1).trans c2); (replace c3 := (hb.cell (p := ⟨b, off + k * 4 + 3, none⟩) hb1).trans c3); (replace d0 := (hb.cell (p := ⟨b', off' + k * 4, none⟩) hb2).trans d0); (replace d1 := (hb.cell (p := ⟨b', off' + k * 4 + 1, none⟩) hb2).trans d1); (replace d2 := (hb.cell (p := ⟨b', off' + k * 4 + 2, none⟩) hb2).trans d2); (replace d3 := (hb.cell (p := ⟨b', off' + k * 4 + 3, none⟩) hb2).trans d3)
   (try go_wp2_with fail)
   refine hK.out _ _ ?_ (fun hHeld => ?_)
   ·first | exact ⟨c0, c1, c2, c3, d0, d1, d2, d3⟩ | (simp (maxDischargeDepth := 6) [go_sem, *]; done)
   clear hK K
   (try simp only [zA])
   refine zTk 9 ?_
   refine wpAnyH_done (by kernel_rfl) ?_ _
   go_wp2_with fail
   go_roundw
   case rel => exact ⟨k + 1, by omega, by go_num, (Below.drew hB).trans (hb.mono hsz)⟩
   case measure => simp [intOf]; omega
  ·go_wp2_with fail
   go_ret
   exact ⟨rfl, hB⟩
theorem fN (a a' : Option Addr) (c c' : Nat) (w : World) :
 Calls Tryz.prog 186 #[.slice a 0 c, .slice a' 0 c'] w fun e w' => e = .returned (.bool true) ∧ Below w.heap.size w w' := by
 go_enter Tryz.func186, Tryz.ntmps186
 go_wp2_with fail
 go_loopw [5] (fun i wr => i = .int .i64 0 ∧ w = wr) (fun i _ => 0)
 case atStart => exact ⟨rfl, rfl⟩
 case round =>
  obtain ⟨rfl, rfl⟩ := hrel
  go_wp2_with fail
  go_ret
  exact ⟨rfl, Below.refl _ _⟩
theorem gQ (a a' : Option Addr) (n c c' : Nat) (M : Nat → KT) (w : World) (hn : n ≤ maxLen) (h : ae w a (n * 4) (aA M)) (h' : ae w a' (n * 4) (aA M)) :
 Calls Tryz.prog 186 #[.slice a n c, .slice a' n c'] w fun e w' => e = .returned (.bool true) ∧ Below w.heap.size w w' := by
 by_cases h0 : n = 0
 ·subst h0; exact fN a a' c c' w
 ·rcases h with h | ⟨b, off, rfl, hp⟩
  ·omega
  ·rcases h' with h | ⟨b', off', rfl, hp'⟩
   ·omega
   ·exact fM b off b' off' n c c' M w hn hp hp'
def mkAsk (q : Int) (c : Nat) : Value := .int .i64 (q + (c : Int))
theorem ej (a : Option Addr) (c : Nat) (q0 : Int) (w : World) :
 Calls Tryz.prog 118 #[.slice a 0 c, .int .i64 q0] w fun e w' => e = .returned (.int .i64 q0) ∧ w = w' := by
 go_enter Tryz.func118, Tryz.ntmps118
 go_wp2_with fail
 go_loopw [1, 5] (fun q i wr => i = .int .i64 0 ∧ q = .int .i64 q0 ∧ w = wr) (fun _ i _ => 0)
 case atStart => exact ⟨rfl, rfl, by first | rfl | trivial⟩
 case round =>
  obtain ⟨rfl, rfl, rfl⟩ := hrel
  go_wp2_with fail
  go_ret
  exact ⟨rfl, rfl⟩
theorem ea (a : Option Addr) (c : Nat) (q0 : Int) (w : World) :
 Calls Tryz.prog 124 #[.slice a 0 c, .int .i64 q0] w fun e w' => e = .returned (.int .i64 q0) ∧ w = w' := by
 go_enter Tryz.func124, Tryz.ntmps124
 go_wp2_with fail
 go_loopw [1, 5] (fun q i wr => i = .int .i64 0 ∧ q = .int .i64 q0 ∧ w = wr) (fun _ i _ => 0)
 case atStart => exact ⟨rfl, rfl, by first | rfl | trivial⟩
 case round =>
  obtain ⟨rfl, rfl, rfl⟩ := hrel
  go_wp2_with fail
  go_ret
  exact ⟨rfl, rfl⟩
def fv (M : FT) : Value := .agg #[.int .i64 M.1, .int .i64 M.2.1, .int .i64 M.2.2.1, .string M.2.2.2.1, .int .i64 M.2.2.2.2]
def R0 (v : Value) : Option (DataW Value × List MemPlace) := some (.held v, [])
def atF (o : Option FT) (z : DataW Value) : DataW Value := match o with | some M => .held (fv M) | none => z
def aL (w : World) (b n : Nat) (F : Int → Option FT) : Prop := ∃ D : DataW Value, w.ownsMap Tryz.prog 3 R0 b n D ∧ ∀ x, (∀ z, D.atKey (.int .i64 x) z = atF (F x) z) ∧ Maps.has D (.int .i64 x) = (F x).isSome
theorem lawK : Maps.Keyed Tryz.prog 3 := Maps.int_keyed Tryz.underlying3
theorem kE (w : World) : (zeroValue 101).run Tryz.prog w = .ok (fv zF) w := by kernel_rfl
theorem eE (n : Nat) (w : World) : (Instr.makeMap 235 (some (.int .i64 (n : Int)))).run Tryz.prog w = .ok (.map (some w.heap.size)) (w.alloc (.map #[] 0)) := by
 first | rfl | (simp [Instr.makeMap, go_sem]; done) | (simp [Instr.makeMap]; done)
theorem aL.made (w : World) : aL (w.alloc (.map #[] 0)) w.heap.size 0 (fun _ => none) := ⟨.map [], World.ownsMap_made w _ _ _, fun x => ⟨fun z => rfl, rfl⟩⟩
theorem aL.kept {w w' : World} {b n : Nat} {F : Int → Option FT} (h : aL w b n F) {row : Option Nat} (hg : w.grownBy w' row) (hne : some b ≠ row) : aL w' b n F := by
 obtain ⟨D, h1, h2⟩ := h
 exact ⟨D, h1.kept hg hne, h2⟩
theorem aL.lt {w : World} {b n : Nat} {F : Int → Option FT} (h : aL w b n F) : b < w.heap.size := by
 obtain ⟨D, h1, h2⟩ := h
 exact h1.lt
theorem aL.below {w w' : World} {b n : Nat} {F : Int → Option FT} (h : aL w b n F) (hb : Below w.heap.size w w') : aL w' b n F :=
 h.kept (row := none) ⟨hb.os, hb.tape, hb.output, hb.size, fun k hk _ => hb.block k hk⟩ (by simp)
theorem aL.setCell {w : World} {b n : Nat} {F : Int → Option FT} (h : aL w b n F) {a : Addr} (ha : b ≠ a.block) (u : Value) : aL (w.setCell a u) b n F := by
 obtain ⟨D, h1, h2⟩ := h
 exact ⟨D, h1.setCell ha u, h2⟩
theorem aL.congr {w : World} {b n : Nat} {F G : Int → Option FT} (h : aL w b n F) (e : ∀ x, F x = G x) : aL w b n G := by
 obtain ⟨D, h1, h2⟩ := h
 exact ⟨D, h1, fun x => by rw [← e x]; exact h2 x⟩
theorem js {o : Option FT} {v : Value} {ps : List MemPlace} (h : R0 v = some (atF o (.held (fv zF)), ps)) : v = fv (o.getD zF) := by
 unfold R0 at h
 simp only [Option.some.injEq, Prod.mk.injEq] at h
 cases o with
 | none => simp only [atF, DataW.held.injEq] at h; exact h.1
 | some M => simp only [atF, DataW.held.injEq] at h; exact h.1
theorem aL.look_ok {w : World} {b n : Nat} {F : Int → Option FT} (h : aL w b n F) {x : Int} (hx : (Lit.int .i64 x).wf = true) : (Instr.lookup 235 (.map (some b)) (.int .i64 x) true).run Tryz.prog w = .ok (.tuple #[fv ((F x).getD zF), .bool (F x).isSome]) w := by
 obtain ⟨D, h1, h2⟩ := h
 obtain ⟨v, ps, hrun, hv⟩ := h1.look_ok (t := 235) (e := 101) lawK Tryz.underlying235 (kE w) (zd := .held (fv zF)) (zp := []) rfl (Maps.keyOf_int_mk Tryz.underlying3 hx)
 rw [(h2 x).1] at hv
 rw [hrun, js hv, (h2 x).2]
theorem jC {x y : Int} (h : x ≠ y) : (Lit.int .i64 x) ≠ (Lit.int .i64 y) := fun e => h (by injection e)
theorem aL.put {w : World} {b n : Nat} {F : Int → Option FT} (h : aL w b n F) {x : Int} (hx : (Lit.int .i64 x).wf = true) (hn : n < maxLen) (M : FT) :
 ∃ w', (Instr.mapUpdate 235 (.map (some b)) (.int .i64 x) (fv M)).run Tryz.prog w = .ok () w' ∧ aL w' b (n + 1) (fun y => if y = x then some M else F y) ∧ w.grownBy w' (some b) := by
 obtain ⟨D, h1, h2⟩ := h
 have hD := h1.isMap
 obtain ⟨w', hrun, ho, hg⟩ := h1.update (t := 235) (e := 101) lawK Tryz.underlying235 hn (key := .int .i64 x) (val := fv M) (d := .held (fv M)) (ps := []) (Maps.keyOf_int_mk Tryz.underlying3 hx) rfl
 refine ⟨w', hrun, ⟨_, ho, fun y => ?_⟩, hg⟩
 by_cases e : y = x
 ·subst e
  simp only [if_true]
  exact ⟨fun z => Maps.atKey_put_same hD (show WideAt.IsKeyLit (.int .i64 y) from trivial) _ _, Maps.has_put_same hD (show WideAt.IsKeyLit (.int .i64 y) from trivial) _⟩
 ·simp only [if_neg e]
  exact ⟨fun z => (Maps.atKey_put_other (jC e) _ _).trans ((h2 y).1 z), (Maps.has_put_other (jC e) _).trans (h2 y).2⟩
end Go.Proofs.YtddijpjgkifngaaGreat
