/- The line of an op: its numbers (the specification). OpLine in the specification. -/
import Derived.Test.YtddjiamollfplaaGreatDoorMC5
import Derived.Test.YtddjiamollfplaaGreatDoorMC21
namespace Go.Proofs.YtddjiamollfplaaGreatDoor
open Go.RowKit
set_option linter.unusedVariables false
theorem iC : ∀ (f K : Nat) (o : ByteArray), (tdS f K o).size ≤ o.size + f
 | 0, _, o => by simp [tdS]
 | f + 1, K, o => by
  by_cases h : K = 0
  ·subst h; rw [gv]; omega
  ·rw [jh h]
   have q := iC f (K / 10) (strOfNums [48 + (K : Int) % 10] ++ o)
   rw [ByteArray.size_append, strOfNums_size] at q
   simp at q
   omega
theorem eP (n : Int) : (txI n).size ≤ 21 := by
 have q := iC 20 n.natAbs ⟨#[]⟩
 have e0 : (⟨#[]⟩ : ByteArray).size = 0 := rfl
 have e1 : (⟨#[45]⟩ : ByteArray).size = 1 := rfl
 have e2 : (⟨#[48]⟩ : ByteArray).size = 1 := rfl
 unfold txI dgs
 split
 ·omega
 ·split
  ·rw [ByteArray.size_append]; omega
  ·omega
theorem dH (s : ByteArray) : (aZ s).size ≤ 128 := by
 unfold aZ
 split
 ·show (0 : Nat) ≤ 128; omega
 ·split
  ·show (1 : Nat) ≤ 128; omega
  ·rw [strOfNums_size, cG]; omega
def lnL (L : List Int) : Nat → ByteArray → ByteArray
 | 0, o => o
 | i + 1, o => (lnL L i o ++ ⟨#[32]⟩) ++ txI (gI L i)
theorem ew (L : List Int) (o : ByteArray) : ∀ i, (lnL L i o).size ≤ o.size + 22 * i
 | 0 => by simp [lnL]
 | i + 1 => by
  have q := ew L o i
  have t := eP (gI L i)
  have e1 : (⟨#[32]⟩ : ByteArray).size = 1 := rfl
  rw [lnL, ByteArray.size_append, ByteArray.size_append]
  omega
def olB (L : List Int) (k : Int) : ByteArray := lnL L L.length (nmK k)
def olO (k nd tt a b : Int) (tx : ByteArray) (n : Nat) (f : Nat → Int) : ByteArray :=
 if opB k nd tt a b tx n f then (if opT k then (olB (opN k nd tt a b n f) k ++ ⟨#[32]⟩) ++ aZ tx else olB (opN k nd tt a b n f) k) else ⟨#[]⟩
set_option maxHeartbeats 1000000 in
theorem gk (k nd tt a b : Int) (tx : ByteArray) (p : Option Addr) (n c : Nat) (f : Nat → Int) (w : World) (hn : n ≤ 64) (hs : LsO w p n c f) :
 Calls Tryz.prog 37 #[.agg #[.int .i64 k, .int .i64 nd, .int .i64 tt, .int .i64 a, .int .i64 b, .string tx, .slice p n c]] w fun e w' => ∃ v, e = .returned (.tuple #[v, .bool (opT k)]) ∧ w'.ownsRow w.heap.size 3 1 v (opN k nd tt a b n f).length (aG (opN k nd tt a b n f)) ∧ Below w.heap.size w w' := by
 by_cases h1 : k = 1
 ·subst h1; exact i6 nd tt a b tx p n c f w hn hs
 by_cases h4 : k = 4
 ·subst h4; exact i7 nd tt a b tx p n c w
 by_cases h5 : k = 5
 ·subst h5; exact i8 nd tt a b tx p n c w
 by_cases h9 : k = 9
 ·subst h9; exact ja nd tt a b tx p n c w
 by_cases h10 : k = 10
 ·subst h10; exact iq nd tt a b tx p n c w
 by_cases h11 : k = 11
 ·subst h11; exact ir nd tt a b tx p n c w
 by_cases h12 : k = 12
 ·subst h12; exact iu nd tt a b tx p n c w
 by_cases h13 : k = 13
 ·subst h13; exact iv nd tt a b tx p n c w
 by_cases h14 : k = 14
 ·subst h14; exact iw nd tt a b tx p n c w
 have e1 : opT k = false := by unfold opT; simp; omega
 have e2 : opN k nd tt a b n f = [nd] := by unfold opN; simp only [h1, h4, h5, h9, h10, h11, h12, h13, h14, if_false]
 rw [e1, e2]
 exact jc k nd tt a b tx p n c w ⟨h1, h4, h5, h9, h10, h11, h12, h13, h14⟩
theorem gx {x m : Int} (h : upB x m = true) : 0 ≤ x ∧ x ≤ m := by
 unfold upB at h
 rw [Bool.and_eq_true] at h
 exact ⟨of_decide_eq_true h.1, of_decide_eq_true h.2⟩
theorem co {k nd tt a b : Int} {tx : ByteArray} {n : Nat} {f : Nat → Int} (h : opB k nd tt a b tx n f = true) :
 n ≤ 8 ∧ tx.size ≤ 64 ∧ (opN k nd tt a b n f).length ≤ 9 ∧ ∀ i, -1000000 ≤ gI (opN k nd tt a b n f) i ∧ gI (opN k nd tt a b n f) i ≤ 1000000 := by
 unfold opB hdB at h
 simp only [Bool.and_eq_true] at h
 obtain ⟨⟨_, ⟨⟨⟨⟨⟨h1, h2⟩, _⟩, h3⟩, h4⟩, h5⟩, h6⟩, h7⟩ := h
 have q1 := gx h1
 have q2 := gx h2
 have q3 := gx h3
 have q4 := gx h4
 have q5 := of_decide_eq_true h5
 have q6 := of_decide_eq_true h6
 have q7 := of_decide_eq_true h7
 have b1 : bdN k ≤ 7 := by unfold bdN; split <;> omega
 have b2 : bdT k ≤ 7 := by unfold bdT; split <;> omega
 have b3 : bdA k ≤ 1000000 := by unfold bdA; split <;> (try split) <;> omega
 have b4 : bdB k ≤ 1000000 := by unfold bdB; split <;> (try split) <;> omega
 have b5 : bdX k ≤ 64 := by unfold bdX; split <;> (try split) <;> omega
 have b6 : bdL k ≤ 8 := by unfold bdL; split <;> omega
 have hall : ∀ x ∈ opN k nd tt a b n f, -1000000 ≤ x ∧ x ≤ 1000000 := by
  intro x hx
  unfold opN at hx
  split at hx
  ·rcases List.mem_cons.1 hx with rfl | hx
   ·omega
   ·obtain ⟨i, hi, rfl⟩ := List.mem_map.1 hx
    exact q7 i (List.mem_range.1 hi)
  ·repeat' split at hx
   all_goals (simp only [List.mem_cons, List.not_mem_nil, or_false] at hx; omega)
 refine ⟨by omega, by omega, ?_, fun i => ?_⟩
 ·unfold opN
  repeat' split
  all_goals simp
  omega
 ·by_cases hi : i < (opN k nd tt a b n f).length
  ·rw [gI, List.getD_eq_getElem?_getD, List.getElem?_eq_getElem hi]
   exact hall _ (List.getElem_mem hi)
  ·rw [gI, List.getD_eq_getElem?_getD, List.getElem?_eq_none (by omega)]
   show (-1000000 : Int) ≤ 0 ∧ (0 : Int) ≤ 1000000
   omega
theorem LsO.src {w : World} {p : Option Addr} {n c : Nat} {f : Nat → Int} (h : LsO w p n c f) : ci w p n (itG f) := by
 rcases h with h | ⟨b, off, e, h | h⟩
 ·exact .inl h.2.1
 ·exact .inl h
 ·exact .inr ⟨b, off, e, h⟩
theorem kc {w : World} {base : Nat} {v : Value} {L : List Int} (h : w.ownsRow base 3 1 v L.length (aG L)) : (v = .slice none 0 0 ∧ L.length = 0) ∨ ∃ g cap, v = .slice (some ⟨g, 0, none⟩) L.length cap ∧ ∀ i, i < L.length → w.cell? ⟨g, i, none⟩ = some (.int .i64 (gI L i)) := by
 rcases h.2 with ⟨rfl, h0⟩ | ⟨g, cap, cur, rfl, _⟩
 ·exact .inl ⟨rfl, h0⟩
 ·refine .inr ⟨g, cap, rfl, fun i hi => ?_⟩
  rw [World.ownsRow.cellAt h i (by omega), bZ, List.getElem?_map, List.getElem?_eq_getElem hi, gI, List.getD_eq_getElem?_getD, List.getElem?_eq_getElem hi]
  rfl
end Go.Proofs.YtddjiamollfplaaGreatDoor
namespace Go.Proofs.YtddjiamollfplaaGreatDoor
open Go.RowKit
set_option linter.unusedVariables false
theorem fD {w : World} {base : Nat} {v : Value} {L : List Int} (h : w.ownsRow base 3 1 v L.length (aG L)) (hl : 0 < L.length) : ∃ g cap, v = .slice (some ⟨g, 0, none⟩) L.length cap ∧ Cs w g 0 L.length (fun j => .int .i64 (gI L j)) := by
 rcases kc h with ⟨_, h0⟩ | ⟨g, cap, rfl, hc⟩
 ·omega
 ·refine ⟨g, cap, rfl, ?_, fun i hi => by rw [Nat.zero_add]; exact hc i hi⟩
  rcases h.2 with ⟨h1, _⟩ | ⟨g', cap', cur, h1, _, h3, _⟩
  ·cases h1
  ·cases h1
   exact (Array.getElem?_eq_some_iff.1 h3).1
theorem mp (k nd tt a b : Int) (n : Nat) (f : Nat → Int) : 0 < (opN k nd tt a b n f).length := by
 unfold opN
 repeat' split
 all_goals simp
set_option maxHeartbeats 8000000 in
set_option maxRecDepth 100000 in
theorem eK (k nd tt a b : Int) (tx : ByteArray) (p : Option Addr) (n c : Nat) (f : Nat → Int) (w : World) (hx : tx.size ≤ maxLen) (hn : n ≤ maxLen) (hs : LsO w p n c f) :
 Calls Tryz.prog 48 #[.agg #[.int .i64 k, .int .i64 nd, .int .i64 tt, .int .i64 a, .int .i64 b, .string tx, .slice p n c]] w fun e w' => e = .returned (.tuple #[.string (olO k nd tt a b tx n f), .bool (opB k nd tt a b tx n f)]) ∧ Below w.heap.size w w' := by
 have B := Below.nw w (.cells #[.int .i64 k, .int .i64 nd, .int .i64 tt, .int .i64 a, .int .i64 b, .string tx, .slice p n c] 26)
 have N := Bo.new w #[.int .i64 k, .int .i64 nd, .int .i64 tt, .int .i64 a, .int .i64 b, .string tx, .slice p n c] 26
 have HS : Hid (LsO (w.alloc (.cells #[.int .i64 k, .int .i64 nd, .int .i64 tt, .int .i64 a, .int .i64 b, .string tx, .slice p n c] 26)) p n c f) := hs.below B
 clear hs
 go_enter Tryz.func48, Tryz.ntmps48
 go_upto_region 1 with fail
 generalize w.alloc (.cells #[.int .i64 k, .int .i64 nd, .int .i64 tt, .int .i64 a, .int .i64 b, .string tx, .slice p n c] 26) = v at *
 have c0 : v.cell? ⟨w.heap.size, 0, none⟩ = some (.int .i64 k) := N.cell (i := 0) rfl
 have c1 : v.cell? ⟨w.heap.size, 1, none⟩ = some (.int .i64 nd) := N.cell (i := 1) rfl
 have c2 : v.cell? ⟨w.heap.size, 2, none⟩ = some (.int .i64 tt) := N.cell (i := 2) rfl
 have c3 : v.cell? ⟨w.heap.size, 3, none⟩ = some (.int .i64 a) := N.cell (i := 3) rfl
 have c4 : v.cell? ⟨w.heap.size, 4, none⟩ = some (.int .i64 b) := N.cell (i := 4) rfl
 have c5 : v.cell? ⟨w.heap.size, 5, none⟩ = some (.string tx) := N.cell (i := 5) rfl
 have c6 : v.cell? ⟨w.heap.size, 6, none⟩ = some (.slice p n c) := N.cell (i := 6) rfl
 go_wp2_with fail
 refine (gl k nd tt a b tx p n c f _ hx hn HS.out.src).mono ?_
 rintro e w1 ⟨rfl, b1⟩
 have B1 := B.trans (b1.mono B.size)
 have N1 := N.below b1
 have HS1 : Hid (LsO w1 p n c f) := HS.out.below b1
 clear b1 N HS B c0 c1 c2 c3 c4 c5 c6
 have c0 : w1.cell? ⟨w.heap.size, 0, none⟩ = some (.int .i64 k) := N1.cell (i := 0) rfl
 have c1 : w1.cell? ⟨w.heap.size, 1, none⟩ = some (.int .i64 nd) := N1.cell (i := 1) rfl
 have c2 : w1.cell? ⟨w.heap.size, 2, none⟩ = some (.int .i64 tt) := N1.cell (i := 2) rfl
 have c3 : w1.cell? ⟨w.heap.size, 3, none⟩ = some (.int .i64 a) := N1.cell (i := 3) rfl
 have c4 : w1.cell? ⟨w.heap.size, 4, none⟩ = some (.int .i64 b) := N1.cell (i := 4) rfl
 have c5 : w1.cell? ⟨w.heap.size, 5, none⟩ = some (.string tx) := N1.cell (i := 5) rfl
 have c6 : w1.cell? ⟨w.heap.size, 6, none⟩ = some (.slice p n c) := N1.cell (i := 6) rfl
 cases hok : opB k nd tt a b tx n f
 ·have HE : Hid (olO k nd tt a b tx n f = ⟨#[]⟩) := by (show olO k nd tt a b tx n f = _; unfold olO; rw [hok]; rfl)
  go_wp2_with fail
  go_ret2
  exact ⟨(by first | (rw [HE.out, hok]; done) | (rw [HE.out, hok]; rfl) | (rw [HE.out]; rfl)), B1⟩
 obtain ⟨hn8, hx64, hL9, hL⟩ := co hok
 have HE : Hid (olO k nd tt a b tx n f = if opT k then (olB (opN k nd tt a b n f) k ++ ⟨#[32]⟩) ++ aZ tx else olB (opN k nd tt a b n f) k) := by (show olO k nd tt a b tx n f = _; unfold olO; rw [hok]; rfl)
 go_wp2_with fail
 refine (gj k _).mono ?_
 rintro e w2 ⟨rfl, b2⟩
 have B2 := B1.trans (b2.mono B1.size)
 have N2 := N1.below b2
 have HS2 : Hid (LsO w2 p n c f) := HS1.out.below b2
 clear b2 N1 HS1 B1 c0 c1 c2 c3 c4 c5 c6
 have c0 : w2.cell? ⟨w.heap.size, 0, none⟩ = some (.int .i64 k) := N2.cell (i := 0) rfl
 have c1 : w2.cell? ⟨w.heap.size, 1, none⟩ = some (.int .i64 nd) := N2.cell (i := 1) rfl
 have c2 : w2.cell? ⟨w.heap.size, 2, none⟩ = some (.int .i64 tt) := N2.cell (i := 2) rfl
 have c3 : w2.cell? ⟨w.heap.size, 3, none⟩ = some (.int .i64 a) := N2.cell (i := 3) rfl
 have c4 : w2.cell? ⟨w.heap.size, 4, none⟩ = some (.int .i64 b) := N2.cell (i := 4) rfl
 have c5 : w2.cell? ⟨w.heap.size, 5, none⟩ = some (.string tx) := N2.cell (i := 5) rfl
 have c6 : w2.cell? ⟨w.heap.size, 6, none⟩ = some (.slice p n c) := N2.cell (i := 6) rfl
 go_wp2_with fail
 refine (gk k nd tt a b tx p n c f _ (by omega) HS2.out).mono ?_
 rintro e w3 ⟨vv, rfl, O3, b3⟩
 have B3 := B2.trans (b3.mono B2.size)
 have N3 := N2.below b3
 obtain ⟨g, cap, rfl, C3⟩ := fD O3 (mp k nd tt a b n f)
 clear b3 N2 HS2 B2 O3 c0 c1 c2 c3 c4 c5 c6
 generalize opN k nd tt a b n f = L at *
 have hz2 := dA k
 go_wp2_with fail
 go_loopw [4, 7] (fun s i wr => ∃ j : Nat, j ≤ L.length ∧ i = .int .i64 (j : Int) ∧ s = .string (lnL L j (nmK k)) ∧ Cs wr g 0 L.length (fun j => .int .i64 (gI L j)) ∧ Bo wr w.heap.size #[.int .i64 k, .int .i64 nd, .int .i64 tt, .int .i64 a, .int .i64 b, .string tx, .slice p n c] ∧ Below w.heap.size w wr) (fun _ i _ => L.length - (intOf i).toNat)
 case atStart => exact ⟨0, Nat.zero_le _, rfl, rfl, C3, N3, B3⟩
 case round =>
  clear C3 N3 B3
  obtain ⟨j, hj, rfl, rfl, C, N, B⟩ := hrel
  have hz := ew L (nmK k) j
  have e32 : (⟨#[32]⟩ : ByteArray).size = 1 := rfl
  have hle1 : ¬ 9223372036854775807 < (lnL L j (nmK k)).size + 1 := by omega
  by_cases hlt : j < L.length
  ·have c0 : wr.cell? ⟨g, j, none⟩ = some (.int .i64 (gI L j)) := by
    have q := C.2 j hlt
    rwa [Nat.zero_add] at q
   have hzt := eP (gI L j)
   have hLj := hL j
   have hle2 : ¬ 9223372036854775807 < (lnL L j (nmK k)).size + 1 + (txI (gI L j)).size := by omega
   have hli : (j : Int) < (L.length : Int) := by omega
   go_wp2_with fail
   refine (eM (gI L j) _ (by omega) (by omega)).mono ?_
   rintro e w4 ⟨rfl, b4⟩
   go_wp2_with fail
   go_roundw
   case rel => exact ⟨j + 1, by omega, by go_num, rfl, C.below b4 C.1, N.below b4, B.trans (b4.mono B.size)⟩
   case measure => simp [intOf]; omega
  ·have hjn : j = L.length := by omega
   subst hjn
   have hli : ¬ (L.length : Int) < (L.length : Int) := by omega
   cases hT : opT k
   ·rw [hT] at HE
    go_wp2_with fail
    go_ret2
    exact ⟨(by first | (rw [HE.out, hok]; done) | (rw [HE.out, hok]; rfl) | (rw [HE.out]; rfl)), B⟩
   ·rw [hT] at HE
    have c5 : wr.cell? ⟨w.heap.size, 5, none⟩ = some (.string tx) := N.cell (i := 5) rfl
    have hzh := dH tx
    have hle2 : ¬ 9223372036854775807 < (lnL L L.length (nmK k)).size + 1 + (aZ tx).size := by omega
    go_wp2_with fail
    refine (fk tx _ hx).mono ?_
    rintro e w4 ⟨rfl, b4⟩
    go_wp2_with fail
    go_ret2
    exact ⟨(by first | (rw [HE.out, hok]; done) | (rw [HE.out, hok]; rfl) | (rw [HE.out]; rfl)), B.trans (b4.mono B.size)⟩
end Go.Proofs.YtddjiamollfplaaGreatDoor
