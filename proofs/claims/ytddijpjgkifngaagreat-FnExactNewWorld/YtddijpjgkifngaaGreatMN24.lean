/- Frames: numbers; what the laws make of one. Rows of frames: what the l -/
import Derived.Test.YtddijpjgkifngaaGreatMN0
import Derived.Test.YtddijpjgkifngaaGreatMN1
import Derived.Test.YtddijpjgkifngaaGreatMN2
namespace Go.Proofs.YtddijpjgkifngaaGreat
open Go.RowKit
set_option linter.unusedVariables false
set_option maxRecDepth 100000
set_option maxHeartbeats 16000000
abbrev FrT : Type := Int × Int × Int × Int × Int × ByteArray
def frB (x0 x1 x2 x3 x4 : Int) (x5 : ByteArray) : Bool := aO x0 && (decide (0 ≤ x1 ∧ x1 ≤ 15) && (decide (0 ≤ x2 ∧ x2 ≤ 1000000000000) && (decide (0 ≤ x3) && (decide (x3 < x4) && (decide (x4 ≤ 1000000000000) && decide (x5.size ≤ 24))))))
def fSt (M : FrT) : Int := M.2.2.2.1
def fEn (M : FrT) : Int := M.2.2.2.2.1
def frM (M : FrT) : Bool := frB M.1 M.2.1 M.2.2.1 M.2.2.2.1 M.2.2.2.2.1 M.2.2.2.2.2
def buA (M : Nat → FrT) : Nat → Bool
 | 0 => true
 | j + 1 => buA M j && (frM (M j) && (decide (j = 0) || !decide (fSt (M j) < fSt (M (j - 1)))))
def buB (M : Nat → FrT) (n : Nat) : Bool := decide (n ≤ 60) && buA M n
theorem kh {M : Nat → FrT} {k n : Nat} (h : buA M (k + 1) = false) (hk : k < n) : buA M n = false := by
 induction n with
 | zero => omega
 | succ n ih =>
  by_cases e : k = n
  ·subst e; exact h
  ·rw [buA, ih (by omega)]; rfl
theorem frM_t {M : FrT} (h : frM M = true) : (0 ≤ M.1 ∧ M.1 ≤ 7) ∧ (0 ≤ M.2.1 ∧ M.2.1 ≤ 15) ∧ (0 ≤ M.2.2.1 ∧ M.2.2.1 ≤ 1000000000000) ∧ 0 ≤ fSt M ∧ fSt M < fEn M ∧ fEn M ≤ 1000000000000 ∧ M.2.2.2.2.2.size ≤ 24 := by
 unfold frM frB aO at h
 simp at h
 unfold fSt fEn
 omega
def eH (w : World) (j : Nat) (x0 x1 x2 x3 x4 : Int) (x5 : ByteArray) : Prop := j < w.heap.size ∧ w.cell? ⟨j, 0, none⟩ = some (.int .i64 x0) ∧ w.cell? ⟨j, 1, none⟩ = some (.int .i64 x1) ∧ w.cell? ⟨j, 2, none⟩ = some (.int .i64 x2) ∧ w.cell? ⟨j, 3, none⟩ = some (.int .i64 x3) ∧ w.cell? ⟨j, 4, none⟩ = some (.int .i64 x4) ∧ w.cell? ⟨j, 5, none⟩ = some (.string x5)
theorem eH.belowB {j B : Nat} {w w' : World} {x0 x1 x2 x3 x4 : Int} {x5 : ByteArray} (h : eH w j x0 x1 x2 x3 x4 x5) (hw : Below B w w') (hk : j < B) : eH w' j x0 x1 x2 x3 x4 x5 := by
 obtain ⟨h0, h1, h2, h3, h4, h5, h6⟩ := h
 exact ⟨Nat.lt_of_lt_of_le h0 hw.size, by rw [hw.cell (p := ⟨j, 0, none⟩) hk]; exact h1, by rw [hw.cell (p := ⟨j, 1, none⟩) hk]; exact h2, by rw [hw.cell (p := ⟨j, 2, none⟩) hk]; exact h3, by rw [hw.cell (p := ⟨j, 3, none⟩) hk]; exact h4, by rw [hw.cell (p := ⟨j, 4, none⟩) hk]; exact h5, by rw [hw.cell (p := ⟨j, 5, none⟩) hk]; exact h6⟩
theorem eH.below {j : Nat} {w w' : World} {x0 x1 x2 x3 x4 : Int} {x5 : ByteArray} (h : eH w j x0 x1 x2 x3 x4 x5) (hw : Below w.heap.size w w') : eH w' j x0 x1 x2 x3 x4 x5 := h.belowB hw h.1
theorem eH.new (w : World) (x0 x1 x2 x3 x4 : Int) (x5 : ByteArray) (T : TypeId) : eH (w.alloc (.cells #[.int .i64 x0, .int .i64 x1, .int .i64 x2, .int .i64 x3, .int .i64 x4, .string x5] T)) w.heap.size x0 x1 x2 x3 x4 x5 := ⟨by simp, by simp, by simp, by simp, by simp, by simp, by simp⟩
theorem eQ (x0 x1 x2 x3 x4 : Int) (x5 : ByteArray) (w : World) :
 Calls Tryz.prog 105 #[.agg #[.int .i64 x0, .int .i64 x1, .int .i64 x2, .int .i64 x3, .int .i64 x4, .string x5], .agg #[.int .i64 x0, .int .i64 x1, .int .i64 x2, .int .i64 x3, .int .i64 x4, .string x5]] w fun e w' => e = .returned (.bool true) ∧ Below w.heap.size w w' := by
 go_enter Tryz.func105, Tryz.ntmps105
 go_wp2_with fail
 go_ret
 exact ⟨rfl, zB⟩
def iB (M : FrT) : Nat → Value
 | 0 => .int .i64 M.1
 | 1 => .int .i64 M.2.1
 | 2 => .int .i64 M.2.2.1
 | 3 => .int .i64 M.2.2.2.1
 | 4 => .int .i64 M.2.2.2.2.1
 | _ => .string M.2.2.2.2.2
def av (M : Nat → FrT) (c : Nat) : Value := iB (M (c / 6)) (c % 6)
theorem bd (M : Nat → FrT) (k j : Nat) (hj : j < 6) : av M (k * 6 + j) = iB (M k) j := by
 have h1 : (k * 6 + j) / 6 = k := by omega
 have h2 : (k * 6 + j) % 6 = j := by omega
 rw [av, h1, h2]
theorem eI {M : Nat → FrT} {k : Nat} {x0 : Int} {x1 : Int} {x2 : Int} {x3 : Int} {x4 : Int} {x5 : ByteArray} (hM : M k = (x0, x1, x2, x3, x4, x5)) : av M (k * 6) = .int .i64 x0 ∧ av M (k * 6 + 1) = .int .i64 x1 ∧ av M (k * 6 + 2) = .int .i64 x2 ∧ av M (k * 6 + 3) = .int .i64 x3 ∧ av M (k * 6 + 4) = .int .i64 x4 ∧ av M (k * 6 + 5) = .string x5 :=
 ⟨by have q := bd M k 0 (by decide); rw [hM] at q; exact q, by have q := bd M k 1 (by decide); rw [hM] at q; exact q, by have q := bd M k 2 (by decide); rw [hM] at q; exact q, by have q := bd M k 3 (by decide); rw [hM] at q; exact q, by have q := bd M k 4 (by decide); rw [hM] at q; exact q, by have q := bd M k 5 (by decide); rw [hM] at q; exact q⟩
theorem Cs.elFrame {w : World} {b off n k : Nat} {M : Nat → FrT} {x0 : Int} {x1 : Int} {x2 : Int} {x3 : Int} {x4 : Int} {x5 : ByteArray} (h : Cs w b off (n * 6) (av M)) (hk : k < n) (hM : M k = (x0, x1, x2, x3, x4, x5)) : w.cell? ⟨b, off + k * 6, none⟩ = some (.int .i64 x0) ∧ w.cell? ⟨b, off + k * 6 + 1, none⟩ = some (.int .i64 x1) ∧ w.cell? ⟨b, off + k * 6 + 2, none⟩ = some (.int .i64 x2) ∧ w.cell? ⟨b, off + k * 6 + 3, none⟩ = some (.int .i64 x3) ∧ w.cell? ⟨b, off + k * 6 + 4, none⟩ = some (.int .i64 x4) ∧ w.cell? ⟨b, off + k * 6 + 5, none⟩ = some (.string x5) := by
 obtain ⟨q0, q1, q2, q3, q4, q5⟩ := eI hM
 exact ⟨by have := h.2 (k * 6) (by omega); rw [q0] at this; exact this, by have := h.2 (k * 6 + 1) (by omega); rw [q1] at this; exact this, by have := h.2 (k * 6 + 2) (by omega); rw [q2] at this; exact this, by have := h.2 (k * 6 + 3) (by omega); rw [q3] at this; exact this, by have := h.2 (k * 6 + 4) (by omega); rw [q4] at this; exact this, by have := h.2 (k * 6 + 5) (by omega); rw [q5] at this; exact this⟩
theorem bF (M : Nat → FrT) (k : Nat) : ∃ (x0 : Int) (x1 : Int) (x2 : Int) (x3 : Int) (x4 : Int) (x5 : ByteArray), M k = (x0, x1, x2, x3, x4, x5) := ⟨_, _, _, _, _, _, rfl⟩
theorem d6 (b off b' off' n c c' : Nat) (M : Nat → FrT) (w : World) (hn : n ≤ maxLen) (hf : Cs w b off (n * 6) (av M)) (hg : Cs w b' off' (n * 6) (av M)) :
 Calls Tryz.prog 55 #[.slice (some ⟨b, off, none⟩) n c, .slice (some ⟨b', off', none⟩) n c'] w fun e w' => e = .returned (.bool true) ∧ Below w.heap.size w w' := by
 unfold maxLen at hn
 go_enter Tryz.func55, Tryz.ntmps55
 go_wp2_with fail
 go_loopw [5] (fun i wr => ∃ k : Nat, k ≤ n ∧ i = .int .i64 k ∧ Below w.heap.size w wr) (fun i _ => n - (intOf i).toNat)
 case atStart => exact ⟨0, Nat.zero_le _, rfl, Below.refl _ _⟩
 case round =>
  obtain ⟨k, hk, rfl, hB⟩ := hrel
  by_cases hlt : k < n
  ·obtain ⟨x0, x1, x2, x3, x4, x5, hM⟩ := bF M k
   obtain ⟨c0, c1, c2, c3, c4, c5⟩ := (hf.below hB hf.1).elFrame hlt hM
   obtain ⟨d0, d1, d2, d3, d4, d5⟩ := (hg.below hB hg.1).elFrame hlt hM
   have hb1 : b < wr.drew.heap.size := Nat.lt_of_lt_of_le hf.1 hB.size
   have hb2 : b' < wr.drew.heap.size := Nat.lt_of_lt_of_le hg.1 hB.size
   have hsz : w.heap.size ≤ wr.drew.heap.size := hB.size
   have hli : (k : Int) < (n : Int) := by omega
   clear hM
   go_wp2_with fail
   refine wp_region_held_drew (S := (fun w' => w'.cell? ⟨b, off + k * 6, none⟩ = some (.int .i64 x0) ∧ w'.cell? ⟨b, off + k * 6 + 1, none⟩ = some (.int .i64 x1) ∧ w'.cell? ⟨b, off + k * 6 + 2, none⟩ = some (.int .i64 x2) ∧ w'.cell? ⟨b, off + k * 6 + 3, none⟩ = some (.int .i64 x3) ∧ w'.cell? ⟨b, off + k * 6 + 4, none⟩ = some (.int .i64 x4) ∧ w'.cell? ⟨b, off + k * 6 + 5, none⟩ = some (.string x5) ∧ w'.cell? ⟨b', off' + k * 6, none⟩ = some (.int .i64 x0) ∧ w'.cell? ⟨b', off' + k * 6 + 1, none⟩ = some (.int .i64 x1) ∧ w'.cell? ⟨b', off' + k * 6 + 2, none⟩ = some (.int .i64 x2) ∧ w'.cell? ⟨b', off' + k * 6 + 3, none⟩ = some (.int .i64 x3) ∧ w'.cell? ⟨b', off' + k * 6 + 4, none⟩ = some (.int .i64 x4) ∧ w'.cell? ⟨b', off' + k * 6 + 5, none⟩ = some (.string x5))) (by kernel_rfl) ?_ (fun hHeld => ?_)
   ·first | exact ⟨c0, c1, c2, c3, c4, c5, d0, d1, d2, d3, d4, d5⟩ | (simp (maxDischargeDepth := 6) [go_sem, *]; done)
   refine zT8 0 ?_
   refine zQ 8 fun K hK => ?_
   go_simp
   refine (eQ _ _ _ _ _ _ _).mono ?_; rintro e w' ⟨rfl, hb⟩; (replace c0 := (hb.cell (p := ⟨b, off + k * 6, none⟩) hb1).trans c0); (replace c1 := (hb.cell (p := ⟨b, off + k * 6 + 1, none⟩) hb1).trans c1); (replace c2 := (hb.cell (p := ⟨b, off + k * 6 + 2, none⟩) hb1).trans c2); (replace c3 := (hb.cell (p := ⟨b, off + k * 6 + 3, none⟩) hb1).trans c3); (replace c4 := (hb.cell (p := ⟨b, off + k * 6 + 4, none⟩) hb1).trans c4); (replace c5 := (hb.cell (p := ⟨b, off + k * 6 + 5, none⟩) hb1).trans c5); (replace d0 := (hb.cell (p := ⟨b', off' + k * 6, none⟩) hb2).trans d0); (replace d1 := (hb.cell (p := ⟨b', off' + k * 6 + 1, none⟩) hb2).trans d1); (replace d2 := (hb.cell (p := ⟨b', off' + k * 6 + 2, none⟩) hb2).trans d2); (replace d3 := (hb.cell (p := ⟨b', off' + k * 6 + 3, none⟩) hb2).trans d3); (replace d4 := (hb.cell (p := ⟨b', off' + k * 6 + 4, none⟩) hb2).trans d4); (replace d5 := (hb.cell (p := ⟨b', off' + k * 6 + 5, none⟩) hb2).trans d5)
   (try go_wp2_with fail)
   refine hK.out _ _ ?_ (fun hHeld => ?_)
   ·first | exact ⟨c0, c1, c2, c3, c4, c5, d0, d1, d2, d3, d4, d5⟩ | (simp (maxDischargeDepth := 6) [go_sem, *]; done)
   clear hK K
   (try simp only [zA])
   refine zTk 9 ?_
   refine wpAnyH_done (by kernel_rfl) ?_ _
   go_wp2_with fail
   go_roundw
   case rel => exact ⟨k + 1, by omega, by go_num, (Below.drew hB).trans (hb.mono hsz)⟩
   case measure => simp [intOf]; omega
  ·go_wp2_with fail
   go_ret
   exact ⟨rfl, hB⟩
theorem d7 (a a' : Option Addr) (c c' : Nat) (w : World) :
 Calls Tryz.prog 55 #[.slice a 0 c, .slice a' 0 c'] w fun e w' => e = .returned (.bool true) ∧ Below w.heap.size w w' := by
 go_enter Tryz.func55, Tryz.ntmps55
 go_wp2_with fail
 go_loopw [5] (fun i wr => i = .int .i64 0 ∧ w = wr) (fun i _ => 0)
 case atStart => exact ⟨rfl, rfl⟩
 case round =>
  obtain ⟨rfl, rfl⟩ := hrel
  go_wp2_with fail
  go_ret
  exact ⟨rfl, Below.refl _ _⟩
theorem eP (a a' : Option Addr) (n c c' : Nat) (M : Nat → FrT) (w : World) (hn : n ≤ maxLen) (h : ae w a (n * 6) (av M)) (h' : ae w a' (n * 6) (av M)) :
 Calls Tryz.prog 55 #[.slice a n c, .slice a' n c'] w fun e w' => e = .returned (.bool true) ∧ Below w.heap.size w w' := by
 by_cases h0 : n = 0
 ·subst h0; exact d7 a a' c c' w
 ·rcases h with h | ⟨b, off, rfl, hp⟩
  ·omega
  ·rcases h' with h | ⟨b', off', rfl, hp'⟩
   ·omega
   ·exact d6 b off b' off' n c c' M w hn hp hp'
end Go.Proofs.YtddijpjgkifngaaGreat
