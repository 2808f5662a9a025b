/- Asks and rows of asks: what the laws make of them, and whether two are -/
import Derived.Test.YtikbjljkakabdaaGreatMB0
import Derived.Test.YtikbjljkakabdaaGreatMB4
namespace Go.Proofs.YtikbjljkakabdaaGreat
open Go.RowKit
set_option linter.unusedVariables false
set_option maxRecDepth 100000
set_option maxHeartbeats 16000000
def KT : Type := Int × Int × Int × Int
def zK : KT := (0, 0, 0, 0)
theorem pq (x0 x1 x2 x3 : Int) (w : World) :
 Calls Tryz.prog 123 #[.agg #[.int .i64 x0, .int .i64 x1, .int .i64 x2, .int .i64 x3]] w fun e w' => e = .returned (.agg #[.int .i64 x0, .int .i64 x1, .int .i64 x2, .int .i64 x3]) ∧ Below w.heap.size w w' := by
 go_enter Tryz.func123, Tryz.ntmps123
 go_wp2_with fail
 exact bodyPost_ret (v := .agg #[.int .i64 x0, .int .i64 x1, .int .i64 x2, .int .i64 x3]) (by simp (maxDischargeDepth := 6) [results, Tryz.results123, go_sem, *]) rfl ⟨rfl, by repeat (first | refine Below.setCell ?_ (by first | (simp; done) | (simp; omega) | omega) _ | refine Below.alloc ?_ (by first | exact Nat.le_refl _ | (simp; done) | (simp; omega)) _ | exact Below.refl _ _)⟩
theorem mf (x0 x1 x2 x3 : Int) (w : World) :
 Calls Tryz.prog 137 #[.agg #[.int .i64 x0, .int .i64 x1, .int .i64 x2, .int .i64 x3], .agg #[.int .i64 x0, .int .i64 x1, .int .i64 x2, .int .i64 x3]] w fun e w' => e = .returned (.bool true) ∧ Below w.heap.size w w' := by
 go_enter Tryz.func137, Tryz.ntmps137
 go_wp2_with fail
 go_ret
 exact ⟨rfl, by repeat (first | refine Below.alloc ?_ (by first | exact Nat.le_refl _ | (simp; done) | (simp; omega)) _ | exact Below.refl _ _)⟩
def nC (M : KT) : Nat → Value
 | 0 => .int .i64 M.1
 | 1 => .int .i64 M.2.1
 | 2 => .int .i64 M.2.2.1
 | _ => .int .i64 M.2.2.2
def aA (M : Nat → KT) (c : Nat) : Value := nC (M (c / 4)) (c % 4)
theorem dT (M : Nat → KT) (k j : Nat) (hj : j < 4) : aA M (k * 4 + j) = nC (M k) j := by
 have h1 : (k * 4 + j) / 4 = k := by omega
 have h2 : (k * 4 + j) % 4 = j := by omega
 rw [aA, h1, h2]
theorem fH {M : Nat → KT} {k : Nat} {x0 : Int} {x1 : Int} {x2 : Int} {x3 : Int} (hM : M k = (x0, x1, x2, x3)) : aA M (k * 4) = .int .i64 x0 ∧ aA M (k * 4 + 1) = .int .i64 x1 ∧ aA M (k * 4 + 2) = .int .i64 x2 ∧ aA M (k * 4 + 3) = .int .i64 x3 :=
 ⟨by have q := dT M k 0 (by decide); rw [hM] at q; exact q, by have q := dT M k 1 (by decide); rw [hM] at q; exact q, by have q := dT M k 2 (by decide); rw [hM] at q; exact q, by have q := dT M k 3 (by decide); rw [hM] at q; exact q⟩
theorem Cs.elAsk {w : World} {b off n k : Nat} {M : Nat → KT} {x0 : Int} {x1 : Int} {x2 : Int} {x3 : Int} (h : Cs w b off (n * 4) (aA M)) (hk : k < n) (hM : M k = (x0, x1, x2, x3)) : w.cell? ⟨b, off + k * 4, none⟩ = some (.int .i64 x0) ∧ w.cell? ⟨b, off + k * 4 + 1, none⟩ = some (.int .i64 x1) ∧ w.cell? ⟨b, off + k * 4 + 2, none⟩ = some (.int .i64 x2) ∧ w.cell? ⟨b, off + k * 4 + 3, none⟩ = some (.int .i64 x3) := by
 obtain ⟨q0, q1, q2, q3⟩ := fH hM
 exact ⟨by have := h.2 (k * 4) (by omega); rw [q0] at this; exact this, by have := h.2 (k * 4 + 1) (by omega); rw [q1] at this; exact this, by have := h.2 (k * 4 + 2) (by omega); rw [q2] at this; exact this, by have := h.2 (k * 4 + 3) (by omega); rw [q3] at this; exact this⟩
theorem dl (M : Nat → KT) (k : Nat) : ∃ (x0 : Int) (x1 : Int) (x2 : Int) (x3 : Int), M k = (x0, x1, x2, x3) := ⟨_, _, _, _, rfl⟩
theorem gz (a : Option Addr) (n c : Nat) (L : Int) (w : World) (hm : n ≤ maxLen) (L0 : 0 ≤ L) (L1 : L ≤ 1048576) :
 Calls Tryz.prog 67 #[.slice a n c, .int .i64 L] w fun e w' => e = .returned (.int .i64 (if (n : Int) ≤ L then L - (n : Int) else -1)) ∧ w = w' := by
 unfold maxLen at hm
 by_cases h : (n : Int) ≤ L
 ·rw [if_pos h]
  have hd : decide (L - (n : Int) < 0) = false := by simp; omega
  go_enter Tryz.func67, Tryz.ntmps67
  go_wp2_with fail
  go_ret
  exact ⟨rfl, rfl⟩
 ·rw [if_neg h]
  have hd : decide (L - (n : Int) < 0) = true := by simp; omega
  go_enter Tryz.func67, Tryz.ntmps67
  go_wp2_with fail
  go_ret
  exact ⟨rfl, rfl⟩
def iC (n : Nat) : Obj := .cells (madeCells #[.int .i64 0, .int .i64 0, .int .i64 0, .int .i64 0] (n * 4)) 88
theorem nT : (Tryz.prog.info? 88).map (fun i => (i.zero, i.size, i.bytes)) = some (some (.agg #[.int .i64 0, .int .i64 0, .int .i64 0, .int .i64 0]), 4, 32) := by kernel_rfl
theorem ix (n : Nat) (h : n ≤ 1048576) (w : World) : (Instr.makeSlice 50 (.int .i64 (n : Int)) (.int .i64 (n : Int))).run Tryz.prog w = .ok (.slice (some ⟨w.heap.size, 0, none⟩) n n) (w.alloc (iC n)) := by
 obtain ⟨i, hi, hz⟩ := Option.map_eq_some_iff.1 nT
 simp only [Prod.mk.injEq] at hz
 obtain ⟨h1, h2, h3⟩ := hz
 have hr := run_make (P := Tryz.prog) w 50 88 i _ Tryz.underlying50 hi h1 .i64 .i64 n n (by omega) (Int.le_refl _) (by rw [h3]; omega) (by omega)
 simp only [Int.toNat_natCast, h2] at hr
 exact hr
theorem ec (w : World) (n : Nat) (F : Nat → Value) : ax (w.alloc (iC n)) w.heap.size 88 (n * 4) 0 F := by
 have h := World.rowIs_alloc w (madeCells #[.int .i64 0, .int .i64 0, .int .i64 0, .int .i64 0] (n * 4)) 88 (fun i => (madeCells #[.int .i64 0, .int .i64 0, .int .i64 0, .int .i64 0] (n * 4)).getD i undef) (fun i hi => by
  rw [Array.getElem?_eq_getElem hi]; exact congrArg some (by rw [Array.getD_eq_getD_getElem?, Array.getElem?_eq_getElem hi]; rfl))
 rw [size_madeCells] at h
 exact ⟨_, h, fun j hj => absurd hj (Nat.not_lt_zero _)⟩
theorem lO (b off n c : Nat) (M : Nat → KT) (w : World) (hn : n ≤ 1048576) (hf : Cs w b off (n * 4) (aA M)) :
 Calls Tryz.prog 82 #[.slice (some ⟨b, off, none⟩) n c] w fun e w' => e = .returned (.slice (some ⟨w.heap.size, 0, none⟩) n n) ∧ ax w' w.heap.size 88 (n * 4) (n * 4) (aA M) ∧ Below w.heap.size w w' := by
 have hmk := ix n hn
 go_enter Tryz.func82, Tryz.ntmps82
 go_wp2_with fail
 clear hmk
 go_loopw [4] (fun i wr => ∃ k : Nat, k ≤ n ∧ i = .int .i64 k ∧ ax wr w.heap.size 88 (n * 4) (k * 4) (aA M) ∧ Below w.heap.size w wr) (fun i _ => n - (intOf i).toNat)
 case atStart => exact ⟨0, Nat.zero_le _, rfl, (ec w n _).eqm (by omega), (Below.refl _ _).alloc (Nat.le_refl _) _⟩
 case round =>
  obtain ⟨k, hk, rfl, hrow, hB⟩ := hrel
  by_cases hlt : k < n
  ·obtain ⟨x0, x1, x2, x3, hM⟩ := dl M k
   obtain ⟨c0, c1, c2, c3⟩ := (hf.below hB hf.1).elAsk hlt hM
   obtain ⟨q0, q1, q2, q3⟩ := fH hM
   have hli : (k : Int) < (n : Int) := by omega
   have hlr := hrow.lt
   clear hM
   go_wp2_with fail
   refine (pq x0 x1 x2 x3 _).mono ?_
   rintro e w' ⟨rfl, hb⟩
   have row := ax.below hb hlr hrow
   have hB2 := hB.trans (hb.mono hB.size)
   clear c0 c1 c2 c3 hrow hB hb
   have hlr2 := row.lt
   obtain ⟨⟨v0, e0⟩, f0⟩ := row.facts (k * 4) (by omega)
   obtain ⟨⟨v1, e1⟩, f1⟩ := row.facts (k * 4 + 1) (by omega)
   obtain ⟨⟨v2, e2⟩, f2⟩ := row.facts (k * 4 + 2) (by omega)
   obtain ⟨⟨v3, e3⟩, f3⟩ := row.facts (k * 4 + 3) (by omega)
   go_wp2_with fail
   go_roundw
   case rel => exact ⟨k + 1, by omega, by go_num, ((((row.put (k * 4 + 1) (by omega) q0).put (k * 4 + 2) (by omega) q1).put (k * 4 + 3) (by omega) q2).put ((k + 1) * 4) (by omega) q3), ((((hB2.setCell (Nat.le_refl _) _).setCell (Nat.le_refl _) _).setCell (Nat.le_refl _) _).setCell (Nat.le_refl _) _)⟩
   case measure => simp [intOf]; omega
  ·have hkn : k = n := by omega
   subst hkn
   have hli : ¬ (k : Int) < (k : Int) := by omega
   go_wp2_with fail
   go_ret
   exact ⟨rfl, hrow, hB⟩
theorem jF (a : Option Addr) (c : Nat) (F : Nat → Value) (w : World) :
 Calls Tryz.prog 82 #[.slice a 0 c] w fun e w' => e = .returned (.slice (some ⟨w.heap.size, 0, none⟩) 0 0) ∧ ax w' w.heap.size 88 (0 * 4) (0 * 4) F ∧ Below w.heap.size w w' := by
 have hmk := ix 0 (by omega)
 simp only [Int.ofNat_zero] at hmk
 go_enter Tryz.func82, Tryz.ntmps82
 go_wp2_with fail
 clear hmk
 go_loopw [4] (fun i wr => i = .int .i64 0 ∧ ax wr w.heap.size 88 (0 * 4) 0 F ∧ Below w.heap.size w wr) (fun i _ => 0)
 case atStart => exact ⟨rfl, ec w 0 F, (Below.refl _ _).alloc (Nat.le_refl _) _⟩
 case round =>
  obtain ⟨rfl, hrow, hB⟩ := hrel
  go_wp2_with fail
  go_ret
  exact ⟨rfl, hrow.eqm (by omega), hB⟩
theorem nj (a : Option Addr) (n c : Nat) (M : Nat → KT) (w : World) (hn : n ≤ 1048576) (h : az w a (n * 4) (aA M)) :
 Calls Tryz.prog 82 #[.slice a n c] w fun e w' => e = .returned (.slice (some ⟨w.heap.size, 0, none⟩) n n) ∧ ax w' w.heap.size 88 (n * 4) (n * 4) (aA M) ∧ Below w.heap.size w w' := by
 rcases h with h0 | ⟨b, off, rfl, h2⟩
 ·have hn0 : n = 0 := by omega
  subst hn0
  exact jF a c _ w
 ·exact lO b off n c M w hn h2
theorem kg (b off b' off' n c c' : Nat) (M : Nat → KT) (w : World) (hn : n ≤ maxLen) (hf : Cs w b off (n * 4) (aA M)) (hg : Cs w b' off' (n * 4) (aA M)) :
 Calls Tryz.prog 94 #[.slice (some ⟨b, off, none⟩) n c, .slice (some ⟨b', off', none⟩) n c'] w fun e w' => e = .returned (.bool true) ∧ Below w.heap.size w w' := by
 unfold maxLen at hn
 go_enter Tryz.func94, Tryz.ntmps94
 go_wp2_with fail
 go_loopw [5] (fun i wr => ∃ k : Nat, k ≤ n ∧ i = .int .i64 k ∧ Below w.heap.size w wr) (fun i _ => n - (intOf i).toNat)
 case atStart => exact ⟨0, Nat.zero_le _, rfl, Below.refl _ _⟩
 case round =>
  obtain ⟨k, hk, rfl, hB⟩ := hrel
  by_cases hlt : k < n
  ·obtain ⟨x0, x1, x2, x3, hM⟩ := dl M k
   obtain ⟨c0, c1, c2, c3⟩ := (hf.below hB hf.1).elAsk hlt hM
   obtain ⟨d0, d1, d2, d3⟩ := (hg.below hB hg.1).elAsk hlt hM
   have hb1 : b < wr.drew.heap.size := Nat.lt_of_lt_of_le hf.1 hB.size
   have hb2 : b' < wr.drew.heap.size := Nat.lt_of_lt_of_le hg.1 hB.size
   have hsz : w.heap.size ≤ wr.drew.heap.size := hB.size
   have hli : (k : Int) < (n : Int) := by omega
   clear hM
   go_wp2_with fail
   refine wp_region_held_drew (S := (fun w' => w'.cell? ⟨b, off + k * 4, none⟩ = some (.int .i64 x0) ∧ w'.cell? ⟨b, off + k * 4 + 1, none⟩ = some (.int .i64 x1) ∧ w'.cell? ⟨b, off + k * 4 + 2, none⟩ = some (.int .i64 x2) ∧ w'.cell? ⟨b, off + k * 4 + 3, none⟩ = some (.int .i64 x3) ∧ w'.cell? ⟨b', off' + k * 4, none⟩ = some (.int .i64 x0) ∧ w'.cell? ⟨b', off' + k * 4 + 1, none⟩ = some (.int .i64 x1) ∧ w'.cell? ⟨b', off' + k * 4 + 2, none⟩ = some (.int .i64 x2) ∧ w'.cell? ⟨b', off' + k * 4 + 3, none⟩ = some (.int .i64 x3))) (by kernel_rfl) ?_ (fun hHeld => ?_)
   ·first | exact ⟨c0, c1, c2, c3, d0, d1, d2, d3⟩ | (simp (maxDischargeDepth := 6) [go_sem, *]; done)
   refine zT8 0 ?_
   refine zQ 8 fun K hK => ?_
   go_simp
   refine (mf _ _ _ _ _).mono ?_; rintro e w' ⟨rfl, hb⟩; (replace c0 := (hb.cell (p := ⟨b, off + k * 4, none⟩) hb1).trans c0); (replace c1 := (hb.cell (p := ⟨b, off + k * 4 + 1, none⟩) hb1).trans c1); (replace c2 := (hb.cell (p := ⟨b, off + k * 4 + 2, none⟩) hb1).trans c2); (replace c3 := (hb.cell (p := ⟨b, off + k * 4 + 3, none⟩) hb1).trans c3); (replace d0 := (hb.cell (p := ⟨b', off' + k * 4, none⟩) hb2).trans d0); (replace d1 := (hb.cell (p := ⟨b', off' + k * 4 + 1, none⟩) hb2).trans d1); (replace d2 := (hb.cell (p := ⟨b', off' + k * 4 + 2, none⟩) hb2).trans d2); (replace d3 := (hb.cell (p := ⟨b', off' + k * 4 + 3, none⟩) hb2).trans d3)
   (try go_wp2_with fail)
   refine hK.out _ _ ?_ (fun hHeld => ?_)
   ·first | exact ⟨c0, c1, c2, c3, d0, d1, d2, d3⟩ | (simp (maxDischargeDepth := 6) [go_sem, *]; done)
   clear hK K
   (try simp only [zA])
   refine zTk 9 ?_
   refine wpAnyH_done (by kernel_rfl) ?_ _
   go_wp2_with fail
   go_roundw
   case rel => exact ⟨k + 1, by omega, by go_num, (Below.drew hB).trans (hb.mono hsz)⟩
   case measure => simp [intOf]; omega
  ·go_wp2_with fail
   go_ret
   exact ⟨rfl, hB⟩
theorem kh (a a' : Option Addr) (c c' : Nat) (w : World) :
 Calls Tryz.prog 94 #[.slice a 0 c, .slice a' 0 c'] w fun e w' => e = .returned (.bool true) ∧ Below w.heap.size w w' := by
 go_enter Tryz.func94, Tryz.ntmps94
 go_wp2_with fail
 go_loopw [5] (fun i wr => i = .int .i64 0 ∧ w = wr) (fun i _ => 0)
 case atStart => exact ⟨rfl, rfl⟩
 case round =>
  obtain ⟨rfl, rfl⟩ := hrel
  go_wp2_with fail
  go_ret
  exact ⟨rfl, Below.refl _ _⟩
theorem me (a a' : Option Addr) (n c c' : Nat) (M : Nat → KT) (w : World) (hn : n ≤ maxLen) (h : az w a (n * 4) (aA M)) (h' : az w a' (n * 4) (aA M)) :
 Calls Tryz.prog 94 #[.slice a n c, .slice a' n c'] w fun e w' => e = .returned (.bool true) ∧ Below w.heap.size w w' := by
 by_cases h0 : n = 0
 ·subst h0; exact kh a a' c c' w
 ·rcases h with h | ⟨b, off, rfl, hp⟩
  ·omega
  ·rcases h' with h | ⟨b', off', rfl, hp'⟩
   ·omega
   ·exact kg b off b' off' n c c' M w hn hp hp'
def cj (q : Int) (c : Nat) : Value := .int .i64 (q + (c : Int))
theorem cL {q : Int} {k j : Nat} {x : Int} (h : x = q + ((k * 4 + j : Nat) : Int)) : cj q (k * 4 + j) = .int .i64 x := by rw [cj, h]
theorem jd (b N n c : Nat) (q0 : Int) (w : World) (hn : n ≤ 1048576) (hq : 0 < q0) (hq1 : q0 ≤ 1073741824) (hN : n * 4 ≤ N) (h : ax w b 88 N 0 (cj q0)) :
 Calls Tryz.prog 99 #[.slice (some ⟨b, 0, none⟩) n c, .int .i64 q0] w fun e w' => e = .returned (.int .i64 (q0 + (n : Int) * 4)) ∧ ax w' b 88 N (n * 4) (cj q0) ∧ But b w w' := by
 go_enter Tryz.func99, Tryz.ntmps99
 go_wp2_with fail
 go_loopw [1, 5] (fun q i wr => ∃ (k : Nat) (Q : Int), k ≤ n ∧ i = .int .i64 k ∧ q = .int .i64 Q ∧ Q = q0 + (k : Int) * 4 ∧ ax wr b 88 N (k * 4) (cj q0) ∧ But b w wr) (fun _ i _ => n - (intOf i).toNat)
 case atStart => exact ⟨0, q0, Nat.zero_le _, rfl, rfl, by omega, h.eqm (by omega), But.refl _ _⟩
 case round =>
  obtain ⟨k, Q, hk, rfl, rfl, hQ, row, hB⟩ := hrel
  clear h
  have HQ : Hid (Q = q0 + (k : Int) * 4) := hQ
  by_cases hlt : k < n
  ·have hli : (k : Int) < (n : Int) := by omega
   have Q0 : 0 < Q := by omega
   have Q1 : Q ≤ 1073741824 + 1048576 * 4 := by omega
   clear hQ
   have hlr := row.lt
   obtain ⟨⟨v0, e0⟩, f0⟩ := row.facts (k * 4) (by omega)
   obtain ⟨⟨v1, e1⟩, f1⟩ := row.facts (k * 4 + 1) (by omega)
   obtain ⟨⟨v2, e2⟩, f2⟩ := row.facts (k * 4 + 2) (by omega)
   obtain ⟨⟨v3, e3⟩, f3⟩ := row.facts (k * 4 + 3) (by omega)
   go_wp2_with fail
   go_roundw
   case rel => exact ⟨k + 1, _, by omega, by go_num, rfl, by have := HQ.out; omega, (ax.put (ax.put (ax.put (ax.put row (k * 4 + 1) (by omega) (cL (k := k) (j := 0) (by have := HQ.out; omega))) (k * 4 + 2) (by omega) (cL (k := k) (j := 1) (by have := HQ.out; omega))) (k * 4 + 3) (by omega) (cL (k := k) (j := 2) (by have := HQ.out; omega))) ((k + 1) * 4) (by omega) (cL (k := k) (j := 3) (by have := HQ.out; omega))), ((((hB.setCell _ _).setCell _ _).setCell _ _).setCell _ _)⟩
   case measure => simp [intOf]; omega
  ·have hkn : k = n := by omega
   subst hkn
   have hli : ¬ (k : Int) < (k : Int) := by omega
   subst hQ
   go_wp2_with fail
   go_ret
   exact ⟨rfl, row, hB⟩
theorem gQ (a : Option Addr) (c : Nat) (q0 : Int) (w : World) :
 Calls Tryz.prog 99 #[.slice a 0 c, .int .i64 q0] w fun e w' => e = .returned (.int .i64 q0) ∧ w = w' := by
 go_enter Tryz.func99, Tryz.ntmps99
 go_wp2_with fail
 go_loopw [1, 5] (fun q i wr => i = .int .i64 0 ∧ q = .int .i64 q0 ∧ w = wr) (fun _ i _ => 0)
 case atStart => exact ⟨rfl, rfl, by first | rfl | trivial⟩
 case round =>
  obtain ⟨rfl, rfl, rfl⟩ := hrel
  go_wp2_with fail
  go_ret
  exact ⟨rfl, rfl⟩
theorem gJ (b off n c : Nat) (q0 : Int) (w : World) (hn : n ≤ 1048576) (hq : 0 < q0) (hq1 : q0 ≤ 1073741824) (h : Cs w b off (n * 4) (cj q0)) :
 Calls Tryz.prog 100 #[.slice (some ⟨b, off, none⟩) n c, .int .i64 q0] w fun e w' => e = .returned (.int .i64 (q0 + (n : Int) * 4)) ∧ w = w' := by
 have HP : Hid (Cs w b off (n * 4) (cj q0)) := h
 clear h
 go_enter Tryz.func100, Tryz.ntmps100
 go_wp2_with fail
 go_loopw [1, 5] (fun q i wr => ∃ (k : Nat) (Q : Int), k ≤ n ∧ i = .int .i64 k ∧ q = .int .i64 Q ∧ Q = q0 + (k : Int) * 4 ∧ w = wr) (fun _ i _ => n - (intOf i).toNat)
 case atStart => exact ⟨0, q0, Nat.zero_le _, rfl, rfl, by omega, by first | rfl | trivial⟩
 case round =>
  obtain ⟨k, Q, hk, rfl, rfl, hQ, rfl⟩ := hrel
  have HQ : Hid (Q = q0 + (k : Int) * 4) := hQ
  by_cases hlt : k < n
  ·have hli : (k : Int) < (n : Int) := by omega
   have Q0 : 0 < Q := by omega
   have Q1 : Q ≤ 1073741824 + 1048576 * 4 := by omega
   have hP := HP.out
   clear hQ
   have c0 : w.cell? ⟨b, off + k * 4, none⟩ = some (.int .i64 (Q)) := by have q := hP.2 (k * 4) (by omega); rw [show cj q0 (k * 4) = .int .i64 (Q) from cL (k := k) (j := 0) (x := Q) (by have := HQ.out; omega)] at q; exact q
   have c1 : w.cell? ⟨b, off + k * 4 + 1, none⟩ = some (.int .i64 (Q + 1)) := by have q := hP.2 (k * 4 + 1) (by omega); rw [show cj q0 (k * 4 + 1) = .int .i64 (Q + 1) from cL (k := k) (j := 1) (x := Q + 1) (by have := HQ.out; omega)] at q; exact q
   have c2 : w.cell? ⟨b, off + k * 4 + 2, none⟩ = some (.int .i64 (Q + 1 + 1)) := by have q := hP.2 (k * 4 + 2) (by omega); rw [show cj q0 (k * 4 + 2) = .int .i64 (Q + 1 + 1) from cL (k := k) (j := 2) (x := Q + 1 + 1) (by have := HQ.out; omega)] at q; exact q
   have c3 : w.cell? ⟨b, off + k * 4 + 3, none⟩ = some (.int .i64 (Q + 1 + 1 + 1)) := by have q := hP.2 (k * 4 + 3) (by omega); rw [show cj q0 (k * 4 + 3) = .int .i64 (Q + 1 + 1 + 1) from cL (k := k) (j := 3) (x := Q + 1 + 1 + 1) (by have := HQ.out; omega)] at q; exact q
   have hbl := hP.1
   clear hP
   go_wp2_with fail
   go_roundw
   case rel => exact ⟨k + 1, _, by omega, by go_num, rfl, by have := HQ.out; omega, by first | rfl | trivial⟩
   case measure => simp [intOf]; omega
  ·have hkn : k = n := by omega
   subst hkn
   have hli : ¬ (k : Int) < (k : Int) := by omega
   subst hQ
   go_wp2_with fail
   go_ret
   exact ⟨rfl, rfl⟩
theorem gK (a : Option Addr) (c : Nat) (q0 : Int) (w : World) :
 Calls Tryz.prog 100 #[.slice a 0 c, .int .i64 q0] w fun e w' => e = .returned (.int .i64 q0) ∧ w = w' := by
 go_enter Tryz.func100, Tryz.ntmps100
 go_wp2_with fail
 go_loopw [1, 5] (fun q i wr => i = .int .i64 0 ∧ q = .int .i64 q0 ∧ w = wr) (fun _ i _ => 0)
 case atStart => exact ⟨rfl, rfl, by first | rfl | trivial⟩
 case round =>
  obtain ⟨rfl, rfl, rfl⟩ := hrel
  go_wp2_with fail
  go_ret
  exact ⟨rfl, rfl⟩
theorem i3 (a : Option Addr) (n c : Nat) (q0 : Int) (w : World) (hn : n ≤ 1048576) (hq : 0 < q0) (hq1 : q0 ≤ 1073741824) (h : az w a (n * 4) (cj q0)) :
 Calls Tryz.prog 100 #[.slice a n c, .int .i64 q0] w fun e w' => e = .returned (.int .i64 (q0 + (n : Int) * 4)) ∧ w = w' := by
 rcases h with h0 | ⟨b, off, rfl, hp⟩
 ·have hn0 : n = 0 := by omega
  subst hn0
  exact (gK a c q0 w).mono fun e w' ⟨h1, h2⟩ => ⟨by rw [h1]; simp, h2⟩
 ·exact gJ b off n c q0 w hn hq hq1 hp
end Go.Proofs.YtikbjljkakabdaaGreat
