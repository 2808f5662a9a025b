/- Asks and rows of asks: what the laws make of them, and whether two are the same. Slots and rows of slots: what the laws make of them, and whether two are the same. A node, marked and held against its marks (the laws). A configuration, marked (the laws). -/
import Derived.Test.YtfhappkeipcemaaGreatM31
namespace Go.Proofs.YtfhappkeipcemaaGreat
open Go.RowKit
set_option linter.unusedVariables false
theorem mkAsk_i {q : Int} {k j : Nat} {x : Int} (h : x = q + ((k * 4 + j : Nat) : Int)) : mkAsk q (k * 4 + j) = .int .i64 x := by rw [mkAsk, h]
set_option maxHeartbeats 8000000 in
theorem markAskS_row (b N n c : Nat) (q0 : Int) (w : World) (hn : n ≤ 1048576) (hq : 0 < q0) (hq1 : q0 ≤ 1073741824) (hN : n * 4 ≤ N) (h : RowF w b 142 N 0 (mkAsk q0)) :
    Calls Tryz.prog 126 #[.slice (some ⟨b, 0, none⟩) n c, .int .i64 q0] w fun e w' => e = .returned (.int .i64 (q0 + (n : Int) * 4)) ∧ RowF w' b 142 N (n * 4) (mkAsk q0) ∧ But b w w' := by
  go_enter Tryz.func126, Tryz.ntmps126
  go_wp2_with fail
  go_loopw [1, 5] (fun q i wr => ∃ (k : Nat) (Q : Int), k ≤ n ∧ i = .int .i64 k ∧ q = .int .i64 Q ∧ Q = q0 + (k : Int) * 4 ∧ RowF wr b 142 N (k * 4) (mkAsk q0) ∧ But b w wr) (fun _ i _ => n - (intOf i).toNat)
  case atStart => exact ⟨0, q0, Nat.zero_le _, rfl, rfl, by omega, h.eqm (by omega), But.refl _ _⟩
  case round =>
    obtain ⟨k, Q, hk, rfl, rfl, hQ, row, hB⟩ := hrel
    clear h
    have HQ : Hid (Q = q0 + (k : Int) * 4) := hQ
    by_cases hlt : k < n
    · have hli : (k : Int) < (n : Int) := by omega
      have Q0 : 0 < Q := by omega
      have Q1 : Q ≤ 1073741824 + 1048576 * 4 := by omega
      clear hQ
      have hlr := row.lt
      obtain ⟨⟨v0, e0⟩, f0⟩ := row.facts (k * 4) (by omega)
      obtain ⟨⟨v1, e1⟩, f1⟩ := row.facts (k * 4 + 1) (by omega)
      obtain ⟨⟨v2, e2⟩, f2⟩ := row.facts (k * 4 + 2) (by omega)
      obtain ⟨⟨v3, e3⟩, f3⟩ := row.facts (k * 4 + 3) (by omega)
      go_wp2_with fail
      go_roundw
      case rel => exact ⟨k + 1, _, by omega, by go_num, rfl, by have := HQ.out; omega, (RowF.put (RowF.put (RowF.put (RowF.put row (k * 4 + 1) (by omega) (mkAsk_i (k := k) (j := 0) (by have := HQ.out; omega))) (k * 4 + 2) (by omega) (mkAsk_i (k := k) (j := 1) (by have := HQ.out; omega))) (k * 4 + 3) (by omega) (mkAsk_i (k := k) (j := 2) (by have := HQ.out; omega))) ((k + 1) * 4) (by omega) (mkAsk_i (k := k) (j := 3) (by have := HQ.out; omega))), ((((hB.setCell _ _).setCell _ _).setCell _ _).setCell _ _)⟩
      case measure => simp [intOf]; omega
    · have hkn : k = n := by omega
      subst hkn
      have hli : ¬ (k : Int) < (k : Int) := by omega
      subst hQ
      go_wp2_with fail
      go_ret
      exact ⟨rfl, row, hB⟩
set_option maxHeartbeats 400000 in
theorem markAskS_zero (a : Option Addr) (c : Nat) (q0 : Int) (w : World) :
    Calls Tryz.prog 126 #[.slice a 0 c, .int .i64 q0] w fun e w' => e = .returned (.int .i64 q0) ∧ w = w' := by
  go_enter Tryz.func126, Tryz.ntmps126
  go_wp2_with fail
  go_loopw [1, 5] (fun q i wr => i = .int .i64 0 ∧ q = .int .i64 q0 ∧ w = wr) (fun _ i _ => 0)
  case atStart => exact ⟨rfl, rfl, by first | rfl | trivial⟩
  case round =>
    obtain ⟨rfl, rfl, rfl⟩ := hrel
    go_wp2_with fail
    go_ret
    exact ⟨rfl, rfl⟩
set_option maxRecDepth 100000 in
set_option maxHeartbeats 8000000 in
theorem heldAskS_some (b off n c : Nat) (q0 : Int) (w : World) (hn : n ≤ 1048576) (hq : 0 < q0) (hq1 : q0 ≤ 1073741824) (h : Cs w b off (n * 4) (mkAsk q0)) :
    Calls Tryz.prog 127 #[.slice (some ⟨b, off, none⟩) n c, .int .i64 q0] w fun e w' => e = .returned (.int .i64 (q0 + (n : Int) * 4)) ∧ w = w' := by
  have HP : Hid (Cs w b off (n * 4) (mkAsk q0)) := h
  clear h
  go_enter Tryz.func127, Tryz.ntmps127
  go_wp2_with fail
  go_loopw [1, 5] (fun q i wr => ∃ (k : Nat) (Q : Int), k ≤ n ∧ i = .int .i64 k ∧ q = .int .i64 Q ∧ Q = q0 + (k : Int) * 4 ∧ w = wr) (fun _ i _ => n - (intOf i).toNat)
  case atStart => exact ⟨0, q0, Nat.zero_le _, rfl, rfl, by omega, by first | rfl | trivial⟩
  case round =>
    obtain ⟨k, Q, hk, rfl, rfl, hQ, rfl⟩ := hrel
    have HQ : Hid (Q = q0 + (k : Int) * 4) := hQ
    by_cases hlt : k < n
    · have hli : (k : Int) < (n : Int) := by omega
      have Q0 : 0 < Q := by omega
      have Q1 : Q ≤ 1073741824 + 1048576 * 4 := by omega
      have hP := HP.out
      clear hQ
      have c0 : w.cell? ⟨b, off + k * 4, none⟩ = some (.int .i64 (Q)) := by have q := hP.2 (k * 4) (by omega); rw [show mkAsk q0 (k * 4) = .int .i64 (Q) from mkAsk_i (k := k) (j := 0) (x := Q) (by have := HQ.out; omega)] at q; exact q
      have c1 : w.cell? ⟨b, off + k * 4 + 1, none⟩ = some (.int .i64 (Q + 1)) := by have q := hP.2 (k * 4 + 1) (by omega); rw [show mkAsk q0 (k * 4 + 1) = .int .i64 (Q + 1) from mkAsk_i (k := k) (j := 1) (x := Q + 1) (by have := HQ.out; omega)] at q; exact q
      have c2 : w.cell? ⟨b, off + k * 4 + 2, none⟩ = some (.int .i64 (Q + 1 + 1)) := by have q := hP.2 (k * 4 + 2) (by omega); rw [show mkAsk q0 (k * 4 + 2) = .int .i64 (Q + 1 + 1) from mkAsk_i (k := k) (j := 2) (x := Q + 1 + 1) (by have := HQ.out; omega)] at q; exact q
      have c3 : w.cell? ⟨b, off + k * 4 + 3, none⟩ = some (.int .i64 (Q + 1 + 1 + 1)) := by have q := hP.2 (k * 4 + 3) (by omega); rw [show mkAsk q0 (k * 4 + 3) = .int .i64 (Q + 1 + 1 + 1) from mkAsk_i (k := k) (j := 3) (x := Q + 1 + 1 + 1) (by have := HQ.out; omega)] at q; exact q
      have hbl := hP.1
      clear hP
      go_wp2_with fail
      go_roundw
      case rel => exact ⟨k + 1, _, by omega, by go_num, rfl, by have := HQ.out; omega, by first | rfl | trivial⟩
      case measure => simp [intOf]; omega
    · have hkn : k = n := by omega
      subst hkn
      have hli : ¬ (k : Int) < (k : Int) := by omega
      subst hQ
      go_wp2_with fail
      go_ret
      exact ⟨rfl, rfl⟩
set_option maxHeartbeats 400000 in
theorem heldAskS_zero (a : Option Addr) (c : Nat) (q0 : Int) (w : World) :
    Calls Tryz.prog 127 #[.slice a 0 c, .int .i64 q0] w fun e w' => e = .returned (.int .i64 q0) ∧ w = w' := by
  go_enter Tryz.func127, Tryz.ntmps127
  go_wp2_with fail
  go_loopw [1, 5] (fun q i wr => i = .int .i64 0 ∧ q = .int .i64 q0 ∧ w = wr) (fun _ i _ => 0)
  case atStart => exact ⟨rfl, rfl, by first | rfl | trivial⟩
  case round =>
    obtain ⟨rfl, rfl, rfl⟩ := hrel
    go_wp2_with fail
    go_ret
    exact ⟨rfl, rfl⟩
theorem heldAskS_any (a : Option Addr) (n c : Nat) (q0 : Int) (w : World) (hn : n ≤ 1048576) (hq : 0 < q0) (hq1 : q0 ≤ 1073741824) (h : SrcC w a (n * 4) (mkAsk q0)) :
    Calls Tryz.prog 127 #[.slice a n c, .int .i64 q0] w fun e w' => e = .returned (.int .i64 (q0 + (n : Int) * 4)) ∧ w = w' := by
  rcases h with h0 | ⟨b, off, rfl, hp⟩
  · have hn0 : n = 0 := by omega
    subst hn0
    exact (heldAskS_zero a c q0 w).mono fun e w' ⟨h1, h2⟩ => ⟨by rw [h1]; simp, h2⟩
  · exact heldAskS_some b off n c q0 w hn hq hq1 hp
end Go.Proofs.YtfhappkeipcemaaGreat
namespace Go.Proofs.YtfhappkeipcemaaGreat
open Go.RowKit
set_option linter.unusedVariables false
def mkSlot (q : Int) (c : Nat) : Value := .int .i64 (q + (c : Int))
theorem mkSlot_i {q : Int} {k j : Nat} {x : Int} (h : x = q + ((k * 2 + j : Nat) : Int)) : mkSlot q (k * 2 + j) = .int .i64 x := by rw [mkSlot, h]
set_option maxHeartbeats 8000000 in
theorem markSlotS_row (b N n c : Nat) (q0 : Int) (w : World) (hn : n ≤ 1048576) (hq : 0 < q0) (hq1 : q0 ≤ 1073741824) (hN : n * 2 ≤ N) (h : RowF w b 216 N 0 (mkSlot q0)) :
    Calls Tryz.prog 125 #[.slice (some ⟨b, 0, none⟩) n c, .int .i64 q0] w fun e w' => e = .returned (.int .i64 (q0 + (n : Int) * 2)) ∧ RowF w' b 216 N (n * 2) (mkSlot q0) ∧ But b w w' := by
  go_enter Tryz.func125, Tryz.ntmps125
  go_wp2_with fail
  go_loopw [1, 5] (fun q i wr => ∃ (k : Nat) (Q : Int), k ≤ n ∧ i = .int .i64 k ∧ q = .int .i64 Q ∧ Q = q0 + (k : Int) * 2 ∧ RowF wr b 216 N (k * 2) (mkSlot q0) ∧ But b w wr) (fun _ i _ => n - (intOf i).toNat)
  case atStart => exact ⟨0, q0, Nat.zero_le _, rfl, rfl, by omega, h.eqm (by omega), But.refl _ _⟩
  case round =>
    obtain ⟨k, Q, hk, rfl, rfl, hQ, row, hB⟩ := hrel
    clear h
    have HQ : Hid (Q = q0 + (k : Int) * 2) := hQ
    by_cases hlt : k < n
    · have hli : (k : Int) < (n : Int) := by omega
      have Q0 : 0 < Q := by omega
      have Q1 : Q ≤ 1073741824 + 1048576 * 2 := by omega
      clear hQ
      have hlr := row.lt
      obtain ⟨⟨v0, e0⟩, f0⟩ := row.facts (k * 2) (by omega)
      obtain ⟨⟨v1, e1⟩, f1⟩ := row.facts (k * 2 + 1) (by omega)
      go_wp2_with fail
      go_roundw
      case rel => exact ⟨k + 1, _, by omega, by go_num, rfl, by have := HQ.out; omega, (RowF.put (RowF.put row (k * 2 + 1) (by omega) (mkSlot_i (k := k) (j := 0) (by have := HQ.out; omega))) ((k + 1) * 2) (by omega) (mkSlot_i (k := k) (j := 1) (by have := HQ.out; omega))), ((hB.setCell _ _).setCell _ _)⟩
      case measure => simp [intOf]; omega
    · have hkn : k = n := by omega
      subst hkn
      have hli : ¬ (k : Int) < (k : Int) := by omega
      subst hQ
      go_wp2_with fail
      go_ret
      exact ⟨rfl, row, hB⟩
set_option maxHeartbeats 400000 in
theorem markSlotS_zero (a : Option Addr) (c : Nat) (q0 : Int) (w : World) :
    Calls Tryz.prog 125 #[.slice a 0 c, .int .i64 q0] w fun e w' => e = .returned (.int .i64 q0) ∧ w = w' := by
  go_enter Tryz.func125, Tryz.ntmps125
  go_wp2_with fail
  go_loopw [1, 5] (fun q i wr => i = .int .i64 0 ∧ q = .int .i64 q0 ∧ w = wr) (fun _ i _ => 0)
  case atStart => exact ⟨rfl, rfl, by first | rfl | trivial⟩
  case round =>
    obtain ⟨rfl, rfl, rfl⟩ := hrel
    go_wp2_with fail
    go_ret
    exact ⟨rfl, rfl⟩
end Go.Proofs.YtfhappkeipcemaaGreat
namespace Go.Proofs.YtfhappkeipcemaaGreat
open Go.RowKit
set_option linter.unusedVariables false
theorem bel_grownZ {w w' : World} (h : Below w.heap.size w w') : w.grownBy w' none := ⟨h.os, h.tape, h.output, h.size, fun k hk _ => h.block k hk⟩
theorem grownZ {w v w' : World} {o : Option Nat} (h : Below w.heap.size w v) (k : v.grownBy w' o) : w.grownBy w' o :=
  ⟨k.os.trans h.os, k.tape.trans h.tape, k.output.trans h.output, Nat.le_trans h.size k.size, fun i hi hne => (k.block i (Nat.lt_of_lt_of_le hi h.size) hne).trans (h.block i hi)⟩
theorem markAskS_ownZ (a : Option Addr) (n c base : Nat) (q0 : Int) (xs : List Value) (w : World) (hn : n ≤ 1048576) (hq : 0 < q0) (hq1 : q0 ≤ 1073741824) (h : w.ownsRow base 142 4 (.slice a n c) n xs) :
    Calls Tryz.prog 126 #[.slice a n c, .int .i64 q0] w fun e w' => e = .returned (.int .i64 (q0 + (n : Int) * 4)) ∧ SrcC w' a (n * 4) (mkAsk q0) ∧ w.grownBy w' (Value.slice a n c).ownBlock := by
  rcases h.2 with ⟨he, h0⟩ | ⟨g, cap, cur, he, _⟩
  · simp at he
    obtain ⟨rfl, rfl, rfl⟩ := he
    exact (markAskS_zero none 0 q0 w).mono fun e w' ⟨h1, h2⟩ => ⟨by rw [h1]; simp, .inl (by omega), h2 ▸ bel_grownZ (Below.refl _ _)⟩
  · simp at he
    obtain ⟨rfl, rfl⟩ := he
    obtain ⟨h1, h2, _, h3⟩ := ownF_row (mkAsk q0) h
    exact (markAskS_row g (c * 4) n c q0 w hn hq hq1 (Nat.mul_le_mul_right _ h2) h3).mono fun e w' ⟨r1, r2, r3⟩ => ⟨r1, .inr ⟨g, 0, rfl, r2.cs (Nat.mul_le_mul_right _ h2)⟩, r3.grK⟩
set_option maxHeartbeats 2000000 in
theorem markTable_q (ep us : Int) (a : Option Addr) (n c base : Nat) (q0 : Int) (xs : List Value) (w : World) (hn : n ≤ 1048576) (hq : 0 < q0) (hq1 : q0 ≤ 1073741824) (h : w.ownsRow base 142 4 (.slice a n c) n xs) :
    Calls Tryz.prog 74 #[.agg #[.int .i64 ep, .int .i64 us, .slice a n c], .int .i64 q0] w fun e w' => e = .returned (.int .i64 (q0 + (n : Int) * 4)) ∧ SrcC w' a (n * 4) (mkAsk q0) ∧ w.grownBy w' (Value.slice a n c).ownBlock := by
  have A0 := Below.nw w (.cells #[.int .i64 ep, .int .i64 us, .slice a n c] 61)
  have C := markAskS_ownZ a n c base q0 xs _ hn hq hq1 (World.ownsRow.alloc h (.cells #[.int .i64 ep, .int .i64 us, .slice a n c] 61))
  clear h
  go_enter Tryz.func74, Tryz.ntmps74
  go_wp2_with fail
  refine C.mono ?_
  rintro e w1 ⟨rfl, R1, hg⟩
  have G := grownZ A0 hg
  go_wp2_with fail
  go_ret
  exact ⟨rfl, R1, G⟩
set_option maxHeartbeats 2000000 in
theorem heldTable_q (ep us : Int) (a : Option Addr) (n c : Nat) (q0 : Int) (w : World) (hn : n ≤ 1048576) (hq : 0 < q0) (hq1 : q0 ≤ 1073741824) (h : SrcC w a (n * 4) (mkAsk q0)) :
    Calls Tryz.prog 77 #[.agg #[.int .i64 ep, .int .i64 us, .slice a n c], .int .i64 q0] w fun e w' => e = .returned (.int .i64 (q0 + (n : Int) * 4)) ∧ Below w.heap.size w w' := by
  have A0 := Below.nw w (.cells #[.int .i64 ep, .int .i64 us, .slice a n c] 61)
  have C := heldAskS_any a n c q0 _ hn hq hq1 (h.below A0)
  have hk : ¬ (q0 + (n : Int) * 4 < 0) := by omega
  clear h
  go_enter Tryz.func77, Tryz.ntmps77
  go_wp2_with fail
  refine C.mono ?_
  rintro e w1 ⟨rfl, rfl⟩
  go_wp2_with fail
  go_ret
  exact ⟨rfl, A0⟩
theorem ownB_some {a : Option Addr} {n c b off : Nat} (h : a = some ⟨b, off, none⟩) : (Value.slice a n c).ownBlock = some b := by subst h; rfl
def mkN (x : NdX) (q : Int) : Int := q + (x.na : Int) * 4 + (x.np : Int) * 5 + (x.nh : Int) * 2
attribute [-go_sem] loadCells in
set_option maxRecDepth 100000 in
set_option maxHeartbeats 4000000 in
theorem markNodeX (A : Array Value) (x : NdX) (q : Int) (l u : Nat) (w : World) (h : NdO w l u A x) (hq : 0 < q) (hq1 : q ≤ 16777216) :
    Calls Tryz.prog 23 #[.agg A, .int .i64 q] w fun e w' => e = .returned (.int .i64 (mkN x q)) ∧ NdM w' A x q ∧ Btw l u w w' := by
  obtain ⟨aa, ac, pa, pc, ha, hc, rfl, hl, r1, r2, r3⟩ := h
  have B := Below.nw w (.cells (ndV x aa ac pa pc ha hc) 66)
  have N := Bo.new w (ndV x aa ac pa pc ha hc) 66
  have l1 : ∀ g, (Value.slice aa x.na ac).ownBlock = some g → l ≤ g ∧ g < u ∧ g < w.heap.size := fun g hg => r1.lt hg
  have l2 : ∀ g, (Value.slice pa x.np pc).ownBlock = some g → l ≤ g ∧ g < u ∧ g < w.heap.size := fun g hg => r2.lt hg
  have l3 : ∀ g, (Value.slice ha x.nh hc).ownBlock = some g → l ≤ g ∧ g < u ∧ g < w.heap.size := fun g hg => r3.lt hg
  have n12 := r1.ne r2 (by decide)
  have n13 := r1.ne r3 (by decide)
  have n23 := r2.ne r3 (by decide)
  have n21 := r2.ne r1 (by decide)
  have n31 := r3.ne r1 (by decide)
  have n32 := r3.ne r2 (by decide)
  have p1 := r1.below B
  have p2 := r2.below B
  have p3 := r3.below B
  clear r1 r2 r3
  have T0 : Btw l u w _ := Btw.ofBelow B
  go_enter Tryz.func23, Tryz.ntmps23
  go_upto_region 1 with fail
  generalize w.alloc (.cells (ndV x aa ac pa pc ha hc) 66) = v at *
  have hL : (loadCells ⟨w.heap.size, 8, none⟩ 3).run Tryz.prog v = .ok #[.int .i64 x.te, .int .i64 x.us, .slice aa x.na ac] v := N.loadAt (P := Tryz.prog) 8 3 (show 8 + 3 ≤ 16 by decide)
  go_wp2_with (rw [hL])
  refine (markTable_q x.te x.us aa x.na ac l q _ v hl.1 hq (by omega) p1.1).mono ?_
  rintro e v1 ⟨rfl, s1, g1⟩
  clear hL p1
  replace N := N.kept g1 (fun e => by have := (l1 _ e.symm).2.2; omega)
  replace p2 := p2.kept g1 n21
  replace p3 := p3.kept g1 n31
  replace T0 := T0.trans (Btw.ofGrown g1 fun g e => ⟨(l1 g e).1, (l1 g e).2.1⟩)
  clear g1 B
  have c11 : v1.cell? ⟨w.heap.size, 11, none⟩ = some (.slice pa x.np pc) := N.cell rfl
  go_wp2_with fail
  refine (markPeerS_own pa x.np pc l (q + (x.na : Int) * 4) _ v1 hl.2.1 (by omega) (by omega) p2.1).mono ?_
  rintro e v2 ⟨rfl, s2, g2⟩
  clear c11 p2
  replace N := N.kept g2 (fun e => by have := (l2 _ e.symm).2.2; omega)
  replace s1 := SrcC.keptK s1 g2 (fun b off e => n12 b (ownB_some e))
  replace p3 := p3.kept g2 n32
  replace T0 := T0.trans (Btw.ofGrown g2 fun g e => ⟨(l2 g e).1, (l2 g e).2.1⟩)
  clear g2
  have c14 : v2.cell? ⟨w.heap.size, 14, none⟩ = some (.slice ha x.nh hc) := N.cell rfl
  go_wp2_with fail
  refine (markHeardS_own ha x.nh hc l (q + (x.na : Int) * 4 + (x.np : Int) * 5) _ v2 hl.2.2 (by omega) (by omega) p3.1).mono ?_
  rintro e v3 ⟨rfl, s3, g3⟩
  clear c14 p3
  replace s1 := SrcC.keptK s1 g3 (fun b off e => n13 b (ownB_some e))
  replace s2 := SrcC.keptK s2 g3 (fun b off e => n23 b (ownB_some e))
  replace T0 := T0.trans (Btw.ofGrown g3 fun g e => ⟨(l3 g e).1, (l3 g e).2.1⟩)
  clear g3 N
  go_wp2_with fail
  go_ret
  exact ⟨rfl, ⟨aa, ac, pa, pc, ha, hc, rfl, hl, s1, s2, s3⟩, T0⟩
attribute [-go_sem] loadCells in
set_option maxRecDepth 100000 in
set_option maxHeartbeats 4000000 in
theorem heldNodeX (A : Array Value) (x : NdX) (q : Int) (w : World) (h : NdM w A x q) (hq : 0 < q) (hq1 : q ≤ 16777216) :
    Calls Tryz.prog 24 #[.agg A, .int .i64 q] w fun e w' => e = .returned (.int .i64 (mkN x q)) ∧ Below w.heap.size w w' := by
  obtain ⟨aa, ac, pa, pc, ha, hc, rfl, hl, s1, s2, s3⟩ := h
  have B := Below.nw w (.cells (ndV x aa ac pa pc ha hc) 66)
  have N := Bo.new w (ndV x aa ac pa pc ha hc) 66
  have p1 := s1.below B
  have p2 := s2.below B
  have p3 := s3.below B
  clear s1 s2 s3
  have h1 : ¬ (q + (x.na : Int) * 4 < 0) := by omega
  have h2 : ¬ (q + (x.na : Int) * 4 + (x.np : Int) * 5 < 0) := by omega
  have h3 : ¬ (q + (x.na : Int) * 4 + (x.np : Int) * 5 + (x.nh : Int) * 2 < 0) := by omega
  go_enter Tryz.func24, Tryz.ntmps24
  go_upto_region 1 with fail
  generalize w.alloc (.cells (ndV x aa ac pa pc ha hc) 66) = v at *
  have hL : (loadCells ⟨w.heap.size, 8, none⟩ 3).run Tryz.prog v = .ok #[.int .i64 x.te, .int .i64 x.us, .slice aa x.na ac] v := N.loadAt (P := Tryz.prog) 8 3 (show 8 + 3 ≤ 16 by decide)
  go_wp2_with (rw [hL])
  refine (heldTable_q x.te x.us aa x.na ac q v hl.1 hq (by omega) p1).mono ?_
  rintro e v1 ⟨rfl, hb⟩
  clear hL p1
  replace N := N.below hb
  replace p2 := p2.below hb
  replace p3 := p3.below hb
  replace B := B.trans (hb.mono B.size)
  clear hb
  have c11 : v1.cell? ⟨w.heap.size, 11, none⟩ = some (.slice pa x.np pc) := N.cell rfl
  go_wp2_with fail
  refine (heldPeerS_any pa x.np pc (q + (x.na : Int) * 4) v1 hl.2.1 (by omega) (by omega) p2).mono ?_
  rintro e v2 ⟨rfl, rfl⟩
  clear c11
  have c14 : v1.cell? ⟨w.heap.size, 14, none⟩ = some (.slice ha x.nh hc) := N.cell rfl
  go_wp2_with fail
  refine (heldHeardS_any ha x.nh hc (q + (x.na : Int) * 4 + (x.np : Int) * 5) v1 hl.2.2 (by omega) (by omega) p3).mono ?_
  rintro e v2 ⟨rfl, rfl⟩
  clear c14
  go_wp2_with fail
  go_ret
  exact ⟨rfl, B⟩
end Go.Proofs.YtfhappkeipcemaaGreat
namespace Go.Proofs.YtfhappkeipcemaaGreat
open Go.RowKit
set_option linter.unusedVariables false
theorem markSlotS_ownZ (a : Option Addr) (n c base : Nat) (q0 : Int) (xs : List Value) (w : World) (hn : n ≤ 1048576) (hq : 0 < q0) (hq1 : q0 ≤ 1073741824) (h : w.ownsRow base 216 2 (.slice a n c) n xs) :
    Calls Tryz.prog 125 #[.slice a n c, .int .i64 q0] w fun e w' => e = .returned (.int .i64 (q0 + (n : Int) * 2)) ∧ w.grownBy w' (Value.slice a n c).ownBlock := by
  rcases h.2 with ⟨he, h0⟩ | ⟨g, cap, cur, he, _⟩
  · simp at he
    obtain ⟨rfl, rfl, rfl⟩ := he
    exact (markSlotS_zero none 0 q0 w).mono fun e w' ⟨h1, h2⟩ => ⟨by rw [h1]; simp, h2 ▸ bel_grownZ (Below.refl _ _)⟩
  · simp at he
    obtain ⟨rfl, rfl⟩ := he
    obtain ⟨h1, h2, _, h3⟩ := ownF_row (mkSlot q0) h
    exact (markSlotS_row g (c * 2) n c q0 w hn hq hq1 (Nat.mul_le_mul_right _ h2) h3).mono fun e w' ⟨r1, _, r3⟩ => ⟨r1, r3.grK⟩
set_option maxHeartbeats 2000000 in
theorem markPlan_q (s g : Int) (a : Option Addr) (n c base : Nat) (q0 : Int) (xs : List Value) (w : World) (hn : n ≤ 1048576) (hq : 0 < q0) (hq1 : q0 ≤ 1073741824) (h : w.ownsRow base 216 2 (.slice a n c) n xs) :
    Calls Tryz.prog 73 #[.agg #[.int .i64 s, .int .i64 g, .slice a n c], .int .i64 q0] w fun e w' => e = .returned (.int .i64 (q0 + (n : Int) * 2)) ∧ w.grownBy w' (Value.slice a n c).ownBlock := by
  have A0 := Below.nw w (.cells #[.int .i64 s, .int .i64 g, .slice a n c] 52)
  have C := markSlotS_ownZ a n c base q0 xs _ hn hq hq1 (World.ownsRow.alloc h (.cells #[.int .i64 s, .int .i64 g, .slice a n c] 52))
  clear h
  go_enter Tryz.func73, Tryz.ntmps73
  go_wp2_with fail
  refine C.mono ?_
  rintro e w1 ⟨rfl, hg⟩
  have G := grownZ A0 hg
  go_wp2_with fail
  go_ret
  exact ⟨rfl, G⟩
attribute [-go_sem] loadCells in
set_option maxRecDepth 100000 in
set_option maxHeartbeats 4000000 in
theorem markCfgX (A : Array Value) (y : CfX) (q : Int) (l u : Nat) (w : World) (h : CfO w l u A y) (hq : 0 < q) (hq1 : q ≤ 1048576) :
    Calls Tryz.prog 22 #[.agg A, .int .i64 q] w fun e w' => e = .returned (.int .i64 (q + (y.m : Int) * 2)) ∧ y.m ≤ 1048576 ∧ Btw l u w w' := by
  obtain ⟨p, d, rfl, hl, r1⟩ := h
  have B := Below.nw w (.cells (cfV y p d) 54)
  have N := Bo.new w (cfV y p d) 54
  have l1 : ∀ g, (Value.slice p y.m d).ownBlock = some g → l ≤ g ∧ g < u ∧ g < w.heap.size := fun g hg => r1.lt hg
  have p1 := r1.below B
  clear r1
  have T0 : Btw l u w _ := Btw.ofBelow B
  go_enter Tryz.func22, Tryz.ntmps22
  go_upto_region 1 with fail
  generalize w.alloc (.cells (cfV y p d) 54) = v at *
  have hL : (loadCells ⟨w.heap.size, 8, none⟩ 3).run Tryz.prog v = .ok #[.int .i64 y.s, .int .i64 y.g, .slice p y.m d] v := N.loadAt (P := Tryz.prog) 8 3 (show 8 + 3 ≤ 11 by decide)
  go_wp2_with (rw [hL])
  refine (markPlan_q y.s y.g p y.m d l q _ v hl hq (by omega) p1.1).mono ?_
  rintro e v1 ⟨rfl, g1⟩
  clear hL p1
  replace T0 := T0.trans (Btw.ofGrown g1 fun g e => ⟨(l1 g e).1, (l1 g e).2.1⟩)
  clear g1 B N
  go_wp2_with fail
  go_ret
  exact ⟨rfl, hl, T0⟩
end Go.Proofs.YtfhappkeipcemaaGreat
