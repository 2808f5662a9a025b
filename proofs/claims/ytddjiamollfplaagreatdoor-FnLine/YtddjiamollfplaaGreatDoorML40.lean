/- OpLine in the specification. -/
import Derived.Test.YtddjiamollfplaaGreatDoorML19
import Derived.Test.YtddjiamollfplaaGreatDoorML20
namespace Go.Proofs.YtddjiamollfplaaGreatDoor
open Go.RowKit
set_option linter.unusedVariables false
theorem own_cellY {w : World} {base : Nat} {v : Value} {L : List Int} (h : w.ownsRow base 3 1 v L.length (irow L)) (hl : 0 < L.length) : ∃ g cap, v = .slice (some ⟨g, 0, none⟩) L.length cap ∧ Cs w g 0 L.length (fun j => .int .i64 (gI L j)) := by
 rcases own_cellX h with ⟨_, h0⟩ | ⟨g, cap, rfl, hc⟩
 ·omega
 ·refine ⟨g, cap, rfl, ?_, fun i hi => by rw [Nat.zero_add]; exact hc i hi⟩
  rcases h.2 with ⟨h1, _⟩ | ⟨g', cap', cur, h1, _, h3, _⟩
  ·cases h1
  ·cases h1
   exact (Array.getElem?_eq_some_iff.1 h3).1
theorem opN_pos (k nd tt a b : Int) (n : Nat) (f : Nat → Int) : 0 < (opN k nd tt a b n f).length := by
 unfold opN
 repeat' split
 all_goals simp
set_option maxHeartbeats 8000000 in
set_option maxRecDepth 100000 in
theorem specOpLine_any (k nd tt a b : Int) (tx : ByteArray) (p : Option Addr) (n c : Nat) (f : Nat → Int) (w : World) (hx : tx.size ≤ maxLen) (hn : n ≤ maxLen) (hs : LsO w p n c f) :
 Calls Tryz.prog 48 #[.agg #[.int .i64 k, .int .i64 nd, .int .i64 tt, .int .i64 a, .int .i64 b, .string tx, .slice p n c]] w fun e w' => e = .returned (.tuple #[.string (olO k nd tt a b tx n f), .bool (opB k nd tt a b tx n f)]) ∧ Below w.heap.size w w' := by
 have B := Below.nw w (.cells #[.int .i64 k, .int .i64 nd, .int .i64 tt, .int .i64 a, .int .i64 b, .string tx, .slice p n c] 26)
 have N := Bo.new w #[.int .i64 k, .int .i64 nd, .int .i64 tt, .int .i64 a, .int .i64 b, .string tx, .slice p n c] 26
 have HS : Hid (LsO (w.alloc (.cells #[.int .i64 k, .int .i64 nd, .int .i64 tt, .int .i64 a, .int .i64 b, .string tx, .slice p n c] 26)) p n c f) := hs.below B
 clear hs
 go_enter Tryz.func48, Tryz.ntmps48
 go_upto_region 1 with fail
 generalize w.alloc (.cells #[.int .i64 k, .int .i64 nd, .int .i64 tt, .int .i64 a, .int .i64 b, .string tx, .slice p n c] 26) = v at *
 have c0 : v.cell? ⟨w.heap.size, 0, none⟩ = some (.int .i64 k) := N.cell (i := 0) rfl
 have c1 : v.cell? ⟨w.heap.size, 1, none⟩ = some (.int .i64 nd) := N.cell (i := 1) rfl
 have c2 : v.cell? ⟨w.heap.size, 2, none⟩ = some (.int .i64 tt) := N.cell (i := 2) rfl
 have c3 : v.cell? ⟨w.heap.size, 3, none⟩ = some (.int .i64 a) := N.cell (i := 3) rfl
 have c4 : v.cell? ⟨w.heap.size, 4, none⟩ = some (.int .i64 b) := N.cell (i := 4) rfl
 have c5 : v.cell? ⟨w.heap.size, 5, none⟩ = some (.string tx) := N.cell (i := 5) rfl
 have c6 : v.cell? ⟨w.heap.size, 6, none⟩ = some (.slice p n c) := N.cell (i := 6) rfl
 go_wp2_with fail
 refine (specOpOk_any k nd tt a b tx p n c f _ hx hn HS.out.src).mono ?_
 rintro e w1 ⟨rfl, b1⟩
 have B1 := B.trans (b1.mono B.size)
 have N1 := N.below b1
 have HS1 : Hid (LsO w1 p n c f) := HS.out.below b1
 clear b1 N HS B c0 c1 c2 c3 c4 c5 c6
 have c0 : w1.cell? ⟨w.heap.size, 0, none⟩ = some (.int .i64 k) := N1.cell (i := 0) rfl
 have c1 : w1.cell? ⟨w.heap.size, 1, none⟩ = some (.int .i64 nd) := N1.cell (i := 1) rfl
 have c2 : w1.cell? ⟨w.heap.size, 2, none⟩ = some (.int .i64 tt) := N1.cell (i := 2) rfl
 have c3 : w1.cell? ⟨w.heap.size, 3, none⟩ = some (.int .i64 a) := N1.cell (i := 3) rfl
 have c4 : w1.cell? ⟨w.heap.size, 4, none⟩ = some (.int .i64 b) := N1.cell (i := 4) rfl
 have c5 : w1.cell? ⟨w.heap.size, 5, none⟩ = some (.string tx) := N1.cell (i := 5) rfl
 have c6 : w1.cell? ⟨w.heap.size, 6, none⟩ = some (.slice p n c) := N1.cell (i := 6) rfl
 cases hok : opB k nd tt a b tx n f
 ·have HE : Hid (olO k nd tt a b tx n f = ⟨#[]⟩) := by (show olO k nd tt a b tx n f = _; unfold olO; rw [hok]; rfl)
  go_wp2_with fail
  go_ret2
  exact ⟨(by first | (rw [HE.out, hok]; done) | (rw [HE.out, hok]; rfl) | (rw [HE.out]; rfl)), B1⟩
 obtain ⟨hn8, hx64, hL9, hL⟩ := ol_facts hok
 have HE : Hid (olO k nd tt a b tx n f = if opT k then (olB (opN k nd tt a b n f) k ++ ⟨#[32]⟩) ++ hexO tx else olB (opN k nd tt a b n f) k) := by (show olO k nd tt a b tx n f = _; unfold olO; rw [hok]; rfl)
 go_wp2_with fail
 refine (specName_any k _).mono ?_
 rintro e w2 ⟨rfl, b2⟩
 have B2 := B1.trans (b2.mono B1.size)
 have N2 := N1.below b2
 have HS2 : Hid (LsO w2 p n c f) := HS1.out.below b2
 clear b2 N1 HS1 B1 c0 c1 c2 c3 c4 c5 c6
 have c0 : w2.cell? ⟨w.heap.size, 0, none⟩ = some (.int .i64 k) := N2.cell (i := 0) rfl
 have c1 : w2.cell? ⟨w.heap.size, 1, none⟩ = some (.int .i64 nd) := N2.cell (i := 1) rfl
 have c2 : w2.cell? ⟨w.heap.size, 2, none⟩ = some (.int .i64 tt) := N2.cell (i := 2) rfl
 have c3 : w2.cell? ⟨w.heap.size, 3, none⟩ = some (.int .i64 a) := N2.cell (i := 3) rfl
 have c4 : w2.cell? ⟨w.heap.size, 4, none⟩ = some (.int .i64 b) := N2.cell (i := 4) rfl
 have c5 : w2.cell? ⟨w.heap.size, 5, none⟩ = some (.string tx) := N2.cell (i := 5) rfl
 have c6 : w2.cell? ⟨w.heap.size, 6, none⟩ = some (.slice p n c) := N2.cell (i := 6) rfl
 go_wp2_with fail
 refine (specNums_any k nd tt a b tx p n c f _ (by omega) HS2.out).mono ?_
 rintro e w3 ⟨vv, rfl, O3, b3⟩
 have B3 := B2.trans (b3.mono B2.size)
 have N3 := N2.below b3
 obtain ⟨g, cap, rfl, C3⟩ := own_cellY O3 (opN_pos k nd tt a b n f)
 clear b3 N2 HS2 B2 O3 c0 c1 c2 c3 c4 c5 c6
 generalize opN k nd tt a b n f = L at *
 have hz2 := nmK_size k
 go_wp2_with fail
 go_loopw [4, 7] (fun s i wr => ∃ j : Nat, j ≤ L.length ∧ i = .int .i64 (j : Int) ∧ s = .string (lnL L j (nmK k)) ∧ Cs wr g 0 L.length (fun j => .int .i64 (gI L j)) ∧ Bo wr w.heap.size #[.int .i64 k, .int .i64 nd, .int .i64 tt, .int .i64 a, .int .i64 b, .string tx, .slice p n c] ∧ Below w.heap.size w wr) (fun _ i _ => L.length - (intOf i).toNat)
 case atStart => exact ⟨0, Nat.zero_le _, rfl, rfl, C3, N3, B3⟩
 case round =>
  clear C3 N3 B3
  obtain ⟨j, hj, rfl, rfl, C, N, B⟩ := hrel
  have hz := lnL_size L (nmK k) j
  have e32 : (⟨#[32]⟩ : ByteArray).size = 1 := rfl
  have hle1 : ¬ 9223372036854775807 < (lnL L j (nmK k)).size + 1 := by omega
  by_cases hlt : j < L.length
  ·have c0 : wr.cell? ⟨g, j, none⟩ = some (.int .i64 (gI L j)) := by
    have q := C.2 j hlt
    rwa [Nat.zero_add] at q
   have hzt := txI_size (gI L j)
   have hLj := hL j
   have hle2 : ¬ 9223372036854775807 < (lnL L j (nmK k)).size + 1 + (txI (gI L j)).size := by omega
   have hli : (j : Int) < (L.length : Int) := by omega
   go_wp2_with fail
   refine (specTextOf_any (gI L j) _ (by omega) (by omega)).mono ?_
   rintro e w4 ⟨rfl, b4⟩
   go_wp2_with fail
   go_roundw
   case rel => exact ⟨j + 1, by omega, by go_num, rfl, C.below b4 C.1, N.below b4, B.trans (b4.mono B.size)⟩
   case measure => simp [intOf]; omega
  ·have hjn : j = L.length := by omega
   subst hjn
   have hli : ¬ (L.length : Int) < (L.length : Int) := by omega
   cases hT : opT k
   ·rw [hT] at HE
    go_wp2_with fail
    go_ret2
    exact ⟨(by first | (rw [HE.out, hok]; done) | (rw [HE.out, hok]; rfl) | (rw [HE.out]; rfl)), B⟩
   ·rw [hT] at HE
    have c5 : wr.cell? ⟨w.heap.size, 5, none⟩ = some (.string tx) := N.cell (i := 5) rfl
    have hzh := hexO_size tx
    have hle2 : ¬ 9223372036854775807 < (lnL L L.length (nmK k)).size + 1 + (hexO tx).size := by omega
    go_wp2_with fail
    refine (specHexOf_any tx _ hx).mono ?_
    rintro e w4 ⟨rfl, b4⟩
    go_wp2_with fail
    go_ret2
    exact ⟨(by first | (rw [HE.out, hok]; done) | (rw [HE.out, hok]; rfl) | (rw [HE.out]; rfl)), B.trans (b4.mono B.size)⟩
end Go.Proofs.YtddjiamollfplaaGreatDoor
