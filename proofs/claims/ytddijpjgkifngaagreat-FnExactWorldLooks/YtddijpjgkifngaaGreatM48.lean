/- Looks and readings, one by one. Rows of looks: what the laws make of them, and whether two are the same. Rows of looks told by lists; an append of one. What all nodes of a world know: the specification, the program. The walk of the exact law of WorldLooks. -/
import Derived.Test.YtddijpjgkifngaaGreatM0
import Derived.Test.YtddijpjgkifngaaGreatM47
namespace Go.Proofs.YtddijpjgkifngaaGreat
open Go.RowKit
set_option linter.unusedVariables false
abbrev LkT : Type := Bool × Int × Int
def zLk : LkT := (false, 0, 0)
set_option maxHeartbeats 2000000 in
theorem eqLook_same (x0 : Bool) (x1 x2 : Int) (w : World) :
 Calls Tryz.prog 78 #[.agg #[.bool x0, .int .i64 x1, .int .i64 x2], .agg #[.bool x0, .int .i64 x1, .int .i64 x2]] w fun e w' => e = .returned (.bool true) ∧ Below w.heap.size w w' := by
 have hx : (x0 != x0) = false := by simp
 go_enter Tryz.func78, Tryz.ntmps78
 go_wp2_with (first | (go_at_call 132; refine (eqIval_same _ _ _).mono ?_; rintro e w' ⟨rfl, hb⟩; obtain ⟨hc, hf⟩ := bcell hb; (first | have hB := Below.trans (Below.trans hB (by repeat (first | exact Below.refl _ _ | refine Below.drew ?_ | refine Below.alloc ?_ (by first | (simp; done) | (simp; omega) | omega) _ | refine Below.setCell ?_ (by first | (simp; done) | (simp; omega) | omega) _ | refine Below.trans ?_ (Below.mono (by assumption) (by first | (simp; done) | (simp; omega) | omega))))) (Below.mono hb (by first | (simp; done) | (simp; omega) | omega)) | have hB := hb); obtain ⟨hC, hF⟩ := bcell hB; have hz := hb.size; (try simp at hz); (try (have hz0 : w.heap.size < w'.heap.size := by omega)); (try (have hz1 : w.heap.size + 1 < w'.heap.size := by omega)); (try (have hz2 : w.heap.size + 1 + 1 < w'.heap.size := by omega)); (try (have hz3 : w.heap.size + 1 + 1 + 1 < w'.heap.size := by omega))))
 go_ret
 exact ⟨rfl, by repeat (first | exact Below.refl _ _ | refine Below.drew ?_ | refine Below.alloc ?_ (by first | (simp; done) | (simp; omega) | omega) _ | refine Below.setCell ?_ (by first | (simp; done) | (simp; omega) | omega) _ | refine Below.trans ?_ (Below.mono (by assumption) (by first | (simp; done) | (simp; omega) | omega)))⟩
end Go.Proofs.YtddijpjgkifngaaGreat
namespace Go.Proofs.YtddijpjgkifngaaGreat
open Go.RowKit
set_option linter.unusedVariables false
def MCLook (M : LkT) : Nat → Value
 | 0 => .bool M.1
 | 1 => .int .i64 M.2.1
 | _ => .int .i64 M.2.2
def MFLook (M : Nat → LkT) (c : Nat) : Value := MCLook (M (c / 3)) (c % 3)
theorem MFLook_at (M : Nat → LkT) (k j : Nat) (hj : j < 3) : MFLook M (k * 3 + j) = MCLook (M k) j := by
 have h1 : (k * 3 + j) / 3 = k := by omega
 have h2 : (k * 3 + j) % 3 = j := by omega
 rw [MFLook, h1, h2]
theorem MFLook_vals {M : Nat → LkT} {k : Nat} {x0 : Bool} {x1 : Int} {x2 : Int} (hM : M k = (x0, x1, x2)) : MFLook M (k * 3) = .bool x0 ∧ MFLook M (k * 3 + 1) = .int .i64 x1 ∧ MFLook M (k * 3 + 2) = .int .i64 x2 :=
 ⟨by have q := MFLook_at M k 0 (by decide); rw [hM] at q; exact q, by have q := MFLook_at M k 1 (by decide); rw [hM] at q; exact q, by have q := MFLook_at M k 2 (by decide); rw [hM] at q; exact q⟩
theorem Cs.elLook {w : World} {b off n k : Nat} {M : Nat → LkT} {x0 : Bool} {x1 : Int} {x2 : Int} (h : Cs w b off (n * 3) (MFLook M)) (hk : k < n) (hM : M k = (x0, x1, x2)) : w.cell? ⟨b, off + k * 3, none⟩ = some (.bool x0) ∧ w.cell? ⟨b, off + k * 3 + 1, none⟩ = some (.int .i64 x1) ∧ w.cell? ⟨b, off + k * 3 + 2, none⟩ = some (.int .i64 x2) := by
 obtain ⟨q0, q1, q2⟩ := MFLook_vals hM
 exact ⟨by have := h.2 (k * 3) (by omega); rw [q0] at this; exact this, by have := h.2 (k * 3 + 1) (by omega); rw [q1] at this; exact this, by have := h.2 (k * 3 + 2) (by omega); rw [q2] at this; exact this⟩
theorem tupLook (M : Nat → LkT) (k : Nat) : ∃ (x0 : Bool) (x1 : Int) (x2 : Int), M k = (x0, x1, x2) := ⟨_, _, _, rfl⟩
theorem infoLook : (Tryz.prog.info? 126).map (fun i => (i.zero, i.size, i.bytes)) = some (some (.agg #[.bool false, .int .i64 0, .int .i64 0]), 3, 24) := by kernel_rfl
set_option maxHeartbeats 8000000 in
theorem eqLookS_some (b off b' off' n c c' : Nat) (M : Nat → LkT) (w : World) (hn : n ≤ maxLen) (hf : Cs w b off (n * 3) (MFLook M)) (hg : Cs w b' off' (n * 3) (MFLook M)) :
 Calls Tryz.prog 33 #[.slice (some ⟨b, off, none⟩) n c, .slice (some ⟨b', off', none⟩) n c'] w fun e w' => e = .returned (.bool true) ∧ Below w.heap.size w w' := by
 unfold maxLen at hn
 go_enter Tryz.func33, Tryz.ntmps33
 go_wp2_with fail
 go_loopw [5] (fun i wr => ∃ k : Nat, k ≤ n ∧ i = .int .i64 k ∧ Below w.heap.size w wr) (fun i _ => n - (intOf i).toNat)
 case atStart => exact ⟨0, Nat.zero_le _, rfl, Below.refl _ _⟩
 case round =>
  obtain ⟨k, hk, rfl, hB⟩ := hrel
  by_cases hlt : k < n
  ·obtain ⟨x0, x1, x2, hM⟩ := tupLook M k
   obtain ⟨c0, c1, c2⟩ := (hf.below hB hf.1).elLook hlt hM
   obtain ⟨d0, d1, d2⟩ := (hg.below hB hg.1).elLook hlt hM
   have hb1 : b < wr.drew.heap.size := Nat.lt_of_lt_of_le hf.1 hB.size
   have hb2 : b' < wr.drew.heap.size := Nat.lt_of_lt_of_le hg.1 hB.size
   have hsz : w.heap.size ≤ wr.drew.heap.size := hB.size
   have hli : (k : Int) < (n : Int) := by omega
   clear hM
   go_wp2_with fail
   refine wp_region_held_drew (S := (fun w' => w'.cell? ⟨b, off + k * 3, none⟩ = some (.bool x0) ∧ w'.cell? ⟨b, off + k * 3 + 1, none⟩ = some (.int .i64 x1) ∧ w'.cell? ⟨b, off + k * 3 + 2, none⟩ = some (.int .i64 x2) ∧ w'.cell? ⟨b', off' + k * 3, none⟩ = some (.bool x0) ∧ w'.cell? ⟨b', off' + k * 3 + 1, none⟩ = some (.int .i64 x1) ∧ w'.cell? ⟨b', off' + k * 3 + 2, none⟩ = some (.int .i64 x2))) (by kernel_rfl) ?_ (fun hHeld => ?_)
   ·first | exact ⟨c0, c1, c2, d0, d1, d2⟩ | (simp (maxDischargeDepth := 6) [go_sem, *]; done)
   refine zTk 0 ?_
   refine zTk 1 ?_
   refine zTk 2 ?_
   refine zTk 3 ?_
   refine zTk 4 ?_
   refine zTk 5 ?_
   refine zTk 6 ?_
   refine zTk 7 ?_
   refine wpAnyH_ready (rs := [8]) (by kernel_rfl) (by simp) ?_
   refine AllReadyH.cons (by rw [List.getElem?_toArray]; rfl) (fun K hK => ?_) AllReadyH.nil
   go_simp
   refine (eqLook_same _ _ _ _).mono ?_; rintro e w' ⟨rfl, hb⟩; (replace c0 := (hb.cell (p := ⟨b, off + k * 3, none⟩) hb1).trans c0); (replace c1 := (hb.cell (p := ⟨b, off + k * 3 + 1, none⟩) hb1).trans c1); (replace c2 := (hb.cell (p := ⟨b, off + k * 3 + 2, none⟩) hb1).trans c2); (replace d0 := (hb.cell (p := ⟨b', off' + k * 3, none⟩) hb2).trans d0); (replace d1 := (hb.cell (p := ⟨b', off' + k * 3 + 1, none⟩) hb2).trans d1); (replace d2 := (hb.cell (p := ⟨b', off' + k * 3 + 2, none⟩) hb2).trans d2)
   (try go_wp2_with fail)
   refine hK.out _ _ ?_ (fun hHeld => ?_)
   ·first | exact ⟨c0, c1, c2, d0, d1, d2⟩ | (simp (maxDischargeDepth := 6) [go_sem, *]; done)
   clear hK K
   (try simp only [Act.put, zSb, zS0, zS1])
   refine zTk 9 ?_
   refine wpAnyH_done (by kernel_rfl) ?_ _
   go_wp2_with fail
   go_roundw
   case rel => exact ⟨k + 1, by omega, by go_num, (Below.drew hB).trans (hb.mono hsz)⟩
   case measure => simp [intOf]; omega
  ·go_wp2_with fail
   go_ret
   exact ⟨rfl, hB⟩
set_option maxHeartbeats 400000 in
theorem eqLookS_zero (a a' : Option Addr) (c c' : Nat) (w : World) :
 Calls Tryz.prog 33 #[.slice a 0 c, .slice a' 0 c'] w fun e w' => e = .returned (.bool true) ∧ Below w.heap.size w w' := by
 go_enter Tryz.func33, Tryz.ntmps33
 go_wp2_with fail
 go_loopw [5] (fun i wr => i = .int .i64 0 ∧ w = wr) (fun i _ => 0)
 case atStart => exact ⟨rfl, rfl⟩
 case round =>
  obtain ⟨rfl, rfl⟩ := hrel
  go_wp2_with fail
  go_ret
  exact ⟨rfl, Below.refl _ _⟩
theorem eqLookS_src (a a' : Option Addr) (n c c' : Nat) (M : Nat → LkT) (w : World) (hn : n ≤ maxLen) (h : SrcC w a (n * 3) (MFLook M)) (h' : SrcC w a' (n * 3) (MFLook M)) :
 Calls Tryz.prog 33 #[.slice a n c, .slice a' n c'] w fun e w' => e = .returned (.bool true) ∧ Below w.heap.size w w' := by
 by_cases h0 : n = 0
 ·subst h0; exact eqLookS_zero a a' c c' w
 ·rcases h with h | ⟨b, off, rfl, hp⟩
  ·omega
  ·rcases h' with h | ⟨b', off', rfl, hp'⟩
   ·omega
   ·exact eqLookS_some b off b' off' n c c' M w hn hp hp'
def mkLook (q : Int) (c : Nat) : Value := if c % 3 = 0 then .bool ((q + (c : Int)) % 3 == 0) else .int .i64 (q + (c : Int))
theorem mkLook_i {q : Int} {k j : Nat} {x : Int} (hj : j < 3 ∧ j ≠ 0) (h : x = q + ((k * 3 + j : Nat) : Int)) : mkLook q (k * 3 + j) = .int .i64 x := by rw [mkLook, if_neg (by omega), h]
theorem mkLook_b {q : Int} {k : Nat} {x : Int} (h : x = q + ((k * 3 + 0 : Nat) : Int)) : mkLook q (k * 3 + 0) = .bool (x % 3 == 0) := by rw [mkLook, if_pos (by omega), h]
set_option maxHeartbeats 8000000 in
theorem markLookS_row (b N n c : Nat) (q0 : Int) (w : World) (hn : n ≤ 1048576) (hq : 0 < q0) (hq1 : q0 ≤ 1073741824) (hN : n * 3 ≤ N) (h : RowF w b 126 N 0 (mkLook q0)) :
 Calls Tryz.prog 34 #[.slice (some ⟨b, 0, none⟩) n c, .int .i64 q0] w fun e w' => e = .returned (.int .i64 (q0 + (n : Int) * 3)) ∧ RowF w' b 126 N (n * 3) (mkLook q0) ∧ But b w w' := by
 go_enter Tryz.func34, Tryz.ntmps34
 go_wp2_with fail
 go_loopw [1, 5] (fun q i wr => ∃ (k : Nat) (Q : Int), k ≤ n ∧ i = .int .i64 k ∧ q = .int .i64 Q ∧ Q = q0 + (k : Int) * 3 ∧ RowF wr b 126 N (k * 3) (mkLook q0) ∧ But b w wr) (fun _ i _ => n - (intOf i).toNat)
 case atStart => exact ⟨0, q0, Nat.zero_le _, rfl, rfl, by omega, h.eqm (by omega), But.refl _ _⟩
 case round =>
  obtain ⟨k, Q, hk, rfl, rfl, hQ, row, hB⟩ := hrel
  clear h
  have HQ : Hid (Q = q0 + (k : Int) * 3) := hQ
  by_cases hlt : k < n
  ·have hli : (k : Int) < (n : Int) := by omega
   have Q0 : 0 < Q := by omega
   have Q1 : Q ≤ 1073741824 + 1048576 * 3 := by omega
   clear hQ
   have hlr := row.lt
   obtain ⟨⟨v0, e0⟩, f0⟩ := row.facts (k * 3) (by omega)
   obtain ⟨⟨v1, e1⟩, f1⟩ := row.facts (k * 3 + 1) (by omega)
   obtain ⟨⟨v2, e2⟩, f2⟩ := row.facts (k * 3 + 2) (by omega)
   go_wp2_with fail
   go_roundw
   case rel => exact ⟨k + 1, _, by omega, by go_num, rfl, by have := HQ.out; omega, (RowF.put (RowF.put (RowF.put row (k * 3 + 1) (by omega) (mkLook_b (k := k) (by have := HQ.out; omega))) (k * 3 + 2) (by omega) (mkLook_i (k := k) (j := 1) (by decide) (by have := HQ.out; omega))) ((k + 1) * 3) (by omega) (mkLook_i (k := k) (j := 2) (by decide) (by have := HQ.out; omega))), (((hB.setCell _ _).setCell _ _).setCell _ _)⟩
   case measure => simp [intOf]; omega
  ·have hkn : k = n := by omega
   subst hkn
   have hli : ¬ (k : Int) < (k : Int) := by omega
   subst hQ
   go_wp2_with fail
   go_ret
   exact ⟨rfl, row, hB⟩
set_option maxHeartbeats 400000 in
theorem markLookS_zero (a : Option Addr) (c : Nat) (q0 : Int) (w : World) :
 Calls Tryz.prog 34 #[.slice a 0 c, .int .i64 q0] w fun e w' => e = .returned (.int .i64 q0) ∧ w = w' := by
 go_enter Tryz.func34, Tryz.ntmps34
 go_wp2_with fail
 go_loopw [1, 5] (fun q i wr => i = .int .i64 0 ∧ q = .int .i64 q0 ∧ w = wr) (fun _ i _ => 0)
 case atStart => exact ⟨rfl, rfl, by first | rfl | trivial⟩
 case round =>
  obtain ⟨rfl, rfl, rfl⟩ := hrel
  go_wp2_with fail
  go_ret
  exact ⟨rfl, rfl⟩
set_option maxRecDepth 100000 in
set_option maxHeartbeats 8000000 in
theorem heldLookS_some (b off n c : Nat) (q0 : Int) (w : World) (hn : n ≤ 1048576) (hq : 0 < q0) (hq1 : q0 ≤ 1073741824) (h : Cs w b off (n * 3) (mkLook q0)) :
 Calls Tryz.prog 35 #[.slice (some ⟨b, off, none⟩) n c, .int .i64 q0] w fun e w' => e = .returned (.int .i64 (q0 + (n : Int) * 3)) ∧ w = w' := by
 have HP : Hid (Cs w b off (n * 3) (mkLook q0)) := h
 clear h
 go_enter Tryz.func35, Tryz.ntmps35
 go_wp2_with fail
 go_loopw [1, 5] (fun q i wr => ∃ (k : Nat) (Q : Int), k ≤ n ∧ i = .int .i64 k ∧ q = .int .i64 Q ∧ Q = q0 + (k : Int) * 3 ∧ w = wr) (fun _ i _ => n - (intOf i).toNat)
 case atStart => exact ⟨0, q0, Nat.zero_le _, rfl, rfl, by omega, by first | rfl | trivial⟩
 case round =>
  obtain ⟨k, Q, hk, rfl, rfl, hQ, rfl⟩ := hrel
  have HQ : Hid (Q = q0 + (k : Int) * 3) := hQ
  by_cases hlt : k < n
  ·have hli : (k : Int) < (n : Int) := by omega
   have Q0 : 0 < Q := by omega
   have Q1 : Q ≤ 1073741824 + 1048576 * 3 := by omega
   have hP := HP.out
   clear hQ
   have c0 : w.cell? ⟨b, off + k * 3, none⟩ = some (.bool ((Q) % 3 == 0)) := by have q := hP.2 (k * 3) (by omega); rw [show mkLook q0 (k * 3) = .bool ((Q) % 3 == 0) from mkLook_b (k := k) (x := Q) (by have := HQ.out; omega)] at q; exact q
   have c1 : w.cell? ⟨b, off + k * 3 + 1, none⟩ = some (.int .i64 (Q + 1)) := by have q := hP.2 (k * 3 + 1) (by omega); rw [show mkLook q0 (k * 3 + 1) = .int .i64 (Q + 1) from mkLook_i (k := k) (j := 1) (x := Q + 1) (by decide) (by have := HQ.out; omega)] at q; exact q
   have c2 : w.cell? ⟨b, off + k * 3 + 2, none⟩ = some (.int .i64 (Q + 1 + 1)) := by have q := hP.2 (k * 3 + 2) (by omega); rw [show mkLook q0 (k * 3 + 2) = .int .i64 (Q + 1 + 1) from mkLook_i (k := k) (j := 2) (x := Q + 1 + 1) (by decide) (by have := HQ.out; omega)] at q; exact q
   have hbl := hP.1
   clear hP
   go_wp2_with fail
   go_roundw
   case rel => exact ⟨k + 1, _, by omega, by go_num, rfl, by have := HQ.out; omega, by first | rfl | trivial⟩
   case measure => simp [intOf]; omega
  ·have hkn : k = n := by omega
   subst hkn
   have hli : ¬ (k : Int) < (k : Int) := by omega
   subst hQ
   go_wp2_with fail
   go_ret
   exact ⟨rfl, rfl⟩
set_option maxHeartbeats 400000 in
theorem heldLookS_zero (a : Option Addr) (c : Nat) (q0 : Int) (w : World) :
 Calls Tryz.prog 35 #[.slice a 0 c, .int .i64 q0] w fun e w' => e = .returned (.int .i64 q0) ∧ w = w' := by
 go_enter Tryz.func35, Tryz.ntmps35
 go_wp2_with fail
 go_loopw [1, 5] (fun q i wr => i = .int .i64 0 ∧ q = .int .i64 q0 ∧ w = wr) (fun _ i _ => 0)
 case atStart => exact ⟨rfl, rfl, by first | rfl | trivial⟩
 case round =>
  obtain ⟨rfl, rfl, rfl⟩ := hrel
  go_wp2_with fail
  go_ret
  exact ⟨rfl, rfl⟩
theorem heldLookS_any (a : Option Addr) (n c : Nat) (q0 : Int) (w : World) (hn : n ≤ 1048576) (hq : 0 < q0) (hq1 : q0 ≤ 1073741824) (h : SrcC w a (n * 3) (mkLook q0)) :
 Calls Tryz.prog 35 #[.slice a n c, .int .i64 q0] w fun e w' => e = .returned (.int .i64 (q0 + (n : Int) * 3)) ∧ w = w' := by
 rcases h with h0 | ⟨b, off, rfl, hp⟩
 ·have hn0 : n = 0 := by omega
  subst hn0
  exact (heldLookS_zero a c q0 w).mono fun e w' ⟨h1, h2⟩ => ⟨by rw [h1]; simp, h2⟩
 ·exact heldLookS_some b off n c q0 w hn hq hq1 hp
end Go.Proofs.YtddijpjgkifngaaGreat
namespace Go.Proofs.YtddijpjgkifngaaGreat
open Go.RowKit
set_option linter.unusedVariables false
def gK (L : List LkT) (i : Nat) : LkT := L.getD i zLk
def lrow (L : List LkT) : List Value := (List.range (L.length * 3)).map (MFLook (gK L))
theorem gK_old {L : List LkT} {p : LkT} {i : Nat} (h : i < L.length) : gK (L ++ [p]) i = gK L i := by rw [gK, gK, List.getD_eq_getElem?_getD, List.getD_eq_getElem?_getD, List.getElem?_append_left h]
theorem gK_new (L : List LkT) (p : LkT) : gK (L ++ [p]) L.length = p := by rw [gK, List.getD_eq_getElem?_getD, List.getElem?_append_right (Nat.le_refl _), Nat.sub_self]; rfl
theorem lrow_snoc (L : List LkT) (p : LkT) : lrow (L ++ [p]) = lrow L ++ [.bool p.1, .int .i64 p.2.1, .int .i64 p.2.2] := by
 rw [lrow, List.length_append, show [p].length = 1 from rfl, mapF_add, lrow]
 congr 1
 ·refine List.map_congr_left fun c hc => ?_
  have hc' : c < L.length * 3 := List.mem_range.1 hc
  show MCLook (gK (L ++ [p]) (c / 3)) _ = MCLook (gK L (c / 3)) _
  rw [gK_old (by omega)]
 ·show [MFLook (gK (L ++ [p])) (L.length * 3 + 0), MFLook (gK (L ++ [p])) (L.length * 3 + 1), MFLook (gK (L ++ [p])) (L.length * 3 + 2)] = _
  rw [MFLook_at _ _ 0 (by decide), MFLook_at _ _ 1 (by decide), MFLook_at _ _ 2 (by decide), gK_new]
  rfl
theorem look_at (w : World) (p : LkT) (T : TypeId) : ∀ j u, [.bool p.1, .int .i64 p.2.1, .int .i64 p.2.2][j]? = some u → (w.alloc (.cells #[.bool p.1, .int .i64 p.2.1, .int .i64 p.2.2] T)).cell? ((⟨w.heap.size, 0, none⟩ : Addr).add j) = some u := by
 intro j u h
 match j, h with
 | 0, h => simp at h; subst h; simp [Addr.add]
 | 1, h => simp at h; subst h; simp [Addr.add]
 | 2, h => simp at h; subst h; simp [Addr.add]
theorem add_look {w : World} {ops : Array Oper} {rest : List Oper} {o : Oper} {a : Act} {Q : Exit → Act → World → Prop} {p0 : Bool} {p1 : Int} {p2 : Int} (hgd : o.guard = none) (s x : Operand)
 (ho : o.op = .call { callee := .builtin .append, args := #[s, x], argTypes := #[71, 71] }) (base : Nat) (L : List LkT) (v : Value) (hs : a.eval s = v) (hown : w.ownsRow base 126 3 v L.length (lrow L))
 (hx : a.eval x = .slice (some ⟨w.heap.size, 0, none⟩) 1 1) (hL : L.length ≤ 1048576) (hbase : base ≤ w.heap.size)
 (h : ∀ v' w', w'.ownsRow base 126 3 v' (L ++ [(p0, p1, p2)]).length (lrow (L ++ [(p0, p1, p2)])) → w.grownBy w' v.ownBlock → (∀ g, v'.ownBlock = some g → v.ownBlock = some g ∨ w.heap.size ≤ g) → wpList Tryz.prog ops Q rest (a.put o.dst v') w') :
 wpList Tryz.prog ops Q (o :: rest) a (w.alloc (.cells #[.bool p0, .int .i64 p1, .int .i64 p2] 126)) := by
 obtain ⟨i0, hi, hz0, hz1, hz2⟩ := info_parts infoLook
 refine wpList_append_new hgd s x 71 ho base 126 i0 (.agg #[.bool false, .int .i64 0, .int .i64 0]) 3 24 Tryz.underlying71 hi hz0 hz1 hz2 rfl (by decide) v L.length (lrow L) hs (World.ownsRow.alloc hown _) ⟨w.heap.size, 0, none⟩ 1 1 [.bool p0, .int .i64 p1, .int .i64 p2] hx rfl (look_at w (p0, p1, p2) 126) (by intro u hu; simp at hu; rcases hu with rfl | rfl | rfl <;> rfl) (by unfold maxLen; omega) (by omega) (by simp; omega) ?_
 intro v' w' h1 h2 h3
 refine h v' w' (by rw [lrow_snoc, List.length_append]; exact h1) ?_ (fun g hg => ?_)
 ·exact ⟨h2.os, h2.tape, h2.output, Nat.le_trans (by simp) h2.size, fun k hk hne => (h2.block k (by simp; omega) hne).trans ((World.grownBy_alloc w _ none).block k hk (by simp))⟩
 ·rcases h3 g hg with q | q
  ·exact .inl q
  ·exact .inr (by simp at q; omega)
theorem made_look (w : World) : (w.alloc (.cells #[] 126)).ownsRow w.heap.size 126 3 (.slice (some ⟨w.heap.size, 0, none⟩) 0 0) ([] : List LkT).length (lrow []) := World.ownsRow_made w #[] 0 (Nat.le_refl _) (by simp [maxLen]) (by simp)
theorem nil_look (w : World) (B : Nat) : w.ownsRow B 126 3 (.slice none 0 0) ([] : List LkT).length (lrow []) := World.ownsRow_nil w B 126 3
end Go.Proofs.YtddijpjgkifngaaGreat
namespace Go.Proofs.YtddijpjgkifngaaGreat
open Go.RowKit
set_option linter.unusedVariables false
def lkT (x : WdX) (k : Nat) : LkT := (nowC x.y (x.XM k) (x.CM k) == 0, nowL x.y (x.XM k) (x.CM k), nowH x.y (x.XM k) (x.CM k))
def wlN (x : WdX) : Nat → List LkT
 | 0 => []
 | k + 1 => wlN x k ++ [lkT x k]
theorem wlN_len (x : WdX) : ∀ k, (wlN x k).length = k
 | 0 => rfl
 | k + 1 => by rw [wlN, List.length_append, wlN_len x k]; rfl
def wlL (x : WdX) : List LkT := match wdOk x with | true => wlN x x.nn | false => []
theorem wlL_t {x : WdX} (h : wdOk x = true) : wlL x = wlN x x.nn := by rw [wlL, h]
theorem wlL_f {x : WdX} (h : wdOk x = false) : wlL x = [] := by rw [wlL, h]
theorem wlL_len (x : WdX) : (wlL x).length ≤ 8 := by
 cases h : wdOk x
 ·rw [wlL_f h]; exact Nat.zero_le _
 ·rw [wlL_t h, wlN_len]; exact (wdOk_parts h).2.2.1.2
attribute [-go_sem] loadCells storeCells in
set_option maxRecDepth 100000 in
set_option maxHeartbeats 16000000 in
theorem specWorldLooksW (A : Array Value) (x : WdX) (w : World) (h : WdS w A x) (ht : txW x) :
 Calls Tryz.prog 31 #[.agg A] w fun e w' => ∃ v, e = .returned v ∧ w'.ownsRow w.heap.size 126 3 v (wlL x).length (lrow (wlL x)) ∧ Below w.heap.size w w' := by
 have HS := h
 have hmm := h.weak
 have CK := fun (v : World) (hv : Below w.heap.size w v) => specWorldOkW A x v (HS.below hv).weak ht
 cases hok : wdOk x
 ·rw [wlL_f hok]
  rw [hok] at CK
  obtain ⟨p, d, la, lc, ca, cc, na, nk, fa, fc, ba, bc, rfl, hm, h1, h2, h3, h4, h5, h6⟩ := h
  clear h1 h2 h3 h4 h5 h6 hm hmm HS ht hok
  have A0 := Below.nw w (.cells (wdV x p d la lc ca cc na nk fa fc ba bc) 52)
  have L := Bo.new w (wdV x p d la lc ca cc na nk fa fc ba bc) 52
  have B := A0
  clear A0
  go_enter Tryz.func31, Tryz.ntmps31
  go_upto_region 1 with fail
  generalize w.alloc (.cells (wdV x p d la lc ca cc na nk fa fc ba bc) 52) = v0 at *
  have O := made_look v0
  have hb := Below.nw v0 (.cells #[] 126)
  go_upto_region 2 with fail
  replace O := own_baseW O (show w.heap.size + 1 ≤ v0.heap.size from L.1)
  have hlo : w.heap.size + 1 ≤ (v0.alloc (.cells #[] 126)).heap.size := Nat.le_trans (show w.heap.size + 1 ≤ v0.heap.size from L.1) hb.size
  replace B := B.trans (hb.mono B.size)
  replace L := L.below hb
  clear hb
  generalize v0.alloc (.cells #[] 126) = va at *
  generalize v0.heap.size = ga at *
  go_wp2_with fail
  go_loopw [3, 4] (fun v i wr => v = .slice (some ⟨ga, 0, none⟩) 0 0 ∧ i = .int .i64 0 ∧ va = wr) (fun _ _ _ => 0)
  case atStart => exact ⟨rfl, rfl, rfl⟩
  case round =>
   obtain ⟨rfl, rfl, rfl⟩ := hrel
   have c14 : va.cell? ⟨w.heap.size, 14, none⟩ = some (.slice na x.nn nk) := L.cell rfl
   by_cases hz : x.nn = 0
   ·have hd : decide ((0 : Int) < (x.nn : Int)) = false := decide_eq_false (by omega)
    clear CK
    go_wp2_with fail
    go_ret
    exact ⟨_, rfl, own_baseW O (Nat.le_succ _), B⟩
   ·have hd : decide ((0 : Int) < (x.nn : Int)) = true := decide_eq_true (by omega)
    have hL0 := L.load (P := Tryz.prog) (show ((wdV x p d la lc ca cc na nk fa fc ba bc) : Array Value).size = 18 from rfl)
    go_wp2_with (rw [hL0])
    refine (CK va B).mono ?_
    rintro e w1 ⟨rfl, hb⟩
    clear hL0 c14 CK
    replace B := B.trans (hb.mono B.size)
    replace O := own_belowW O hb
    clear hb
    go_wp2_with fail
    go_ret
    exact ⟨_, rfl, own_baseW O (Nat.le_succ _), B⟩
 ·obtain ⟨_, _, ⟨_, hn8⟩, _, hc, _⟩ := wdOk_parts hok
  rw [wlL_t hok]
  rw [hok] at CK
  have CL := fun (v : World) (hv : Below w.heap.size w v) (k : Nat) (hk : k < x.nn) => specLookW A x k v (HS.below hv) hk (by omega)
  obtain ⟨p, d, la, lc, ca, cc, na, nk, fa, fc, ba, bc, rfl, hm, h1, h2, h3, h4, h5, h6⟩ := h
  clear h1 h2 h3 h4 h5 h6 hm hmm HS ht hok hc
  have A0 := Below.nw w (.cells (wdV x p d la lc ca cc na nk fa fc ba bc) 52)
  have L := Bo.new w (wdV x p d la lc ca cc na nk fa fc ba bc) 52
  have B := A0
  clear A0
  go_enter Tryz.func31, Tryz.ntmps31
  go_upto_region 1 with fail
  generalize w.alloc (.cells (wdV x p d la lc ca cc na nk fa fc ba bc) 52) = v0 at *
  have O := made_look v0
  have hb := Below.nw v0 (.cells #[] 126)
  go_upto_region 2 with fail
  replace O := own_baseW O (show w.heap.size + 1 ≤ v0.heap.size from L.1)
  have hlo : w.heap.size + 1 ≤ (v0.alloc (.cells #[] 126)).heap.size := Nat.le_trans (show w.heap.size + 1 ≤ v0.heap.size from L.1) hb.size
  replace B := B.trans (hb.mono B.size)
  replace L := L.below hb
  clear hb
  generalize v0.alloc (.cells #[] 126) = va at *
  generalize v0.heap.size = ga at *
  go_wp2_with fail
  go_loopw [3, 4] (fun r i wr => ∃ k : Nat, k ≤ x.nn ∧ i = .int .i64 (k : Int) ∧ wr.ownsRow (w.heap.size + 1) 126 3 r (wlN x k).length (lrow (wlN x k)) ∧ Bo wr w.heap.size (wdV x p d la lc ca cc na nk fa fc ba bc) ∧ Below w.heap.size w wr ∧ w.heap.size + 1 ≤ wr.heap.size) (fun _ i _ => x.nn - (intOf i).toNat)
  case atStart => exact ⟨0, Nat.zero_le _, rfl, O, L, B, hlo⟩
  case round =>
   clear L B O hlo
   obtain ⟨k, hk, rfl, O, L, B, hlo⟩ := hrel
   have c14 : wr.cell? ⟨w.heap.size, 14, none⟩ = some (.slice na x.nn nk) := L.cell rfl
   by_cases hlt : k < x.nn
   ·have hli : (k : Int) < (x.nn : Int) := by omega
    have hd : decide ((k : Int) < (x.nn : Int)) = true := decide_eq_true hli
    have hL0 := L.load (P := Tryz.prog) (show ((wdV x p d la lc ca cc na nk fa fc ba bc) : Array Value).size = 18 from rfl)
    go_wp2_with (rw [hL0])
    refine (CK wr B).mono ?_
    rintro e w1 ⟨rfl, hb⟩
    clear hL0
    replace B := B.trans (hb.mono B.size)
    replace L := L.below hb
    replace O := own_belowW O hb
    replace hlo := Nat.le_trans hlo hb.size
    clear hb
    clear c14
    have hR : wlN x (k + 1) = wlN x k ++ [(nowC x.y (x.XM k) (x.CM k) == 0, nowL x.y (x.XM k) (x.CM k), nowH x.y (x.XM k) (x.CM k))] := rfl
    have HR : Hid (wlN x (k + 1) = wlN x k ++ [(nowC x.y (x.XM k) (x.CM k) == 0, nowL x.y (x.XM k) (x.CM k), nowH x.y (x.XM k) (x.CM k))]) := hR
    have hlen : (wlN x k).length = k := wlN_len x k
    have CLk := fun (v : World) (hv : Below w.heap.size w v) => CL v hv k hlt
    clear hR
    generalize (nowC x.y (x.XM k) (x.CM k) == 0) = kb at *
    generalize nowL x.y (x.XM k) (x.CM k) = lN at *
    generalize nowH x.y (x.XM k) (x.CM k) = hN at *
    have hL0 := L.load (P := Tryz.prog) (show ((wdV x p d la lc ca cc na nk fa fc ba bc) : Array Value).size = 18 from rfl)
    go_wp2_with (rw [hL0])
    refine (CLk w1 B).mono ?_
    rintro e w2 ⟨rfl, hb⟩
    clear hL0
    replace B := B.trans (hb.mono B.size)
    replace L := L.below hb
    replace O := own_belowW O hb
    replace hlo := Nat.le_trans hlo hb.size
    clear hb
    go_wp2_with (at_builtin; refine add_look rfl _ _ rfl (w.heap.size + 1) (wlN x k) _ rfl O rfl (by omega) hlo ?_; intro v8 w8 O8 hg8 _)
    have Bg := grown_belowW O hg8 hlo
    replace L := L.belowB Bg (Nat.lt_succ_self _)
    replace B := B.trans (Bg.mono (Nat.le_succ _))
    have hlo2 := Nat.le_trans hlo Bg.size
    have O9 : w8.ownsRow (w.heap.size + 1) 126 3 v8 (wlN x (k + 1)).length (lrow (wlN x (k + 1))) := by rw [HR.out]; exact O8
    clear Bg O O8 hg8 hlo HR hlen
    go_wp2_with fail
    go_roundw
    case rel => exact ⟨k + 1, by omega, by go_num, O9, L, B, hlo2⟩
    case measure => simp [intOf]; omega
   have hkn : k = x.nn := by omega
   have hli : ¬ (k : Int) < (x.nn : Int) := by omega
   have hd : decide ((k : Int) < (x.nn : Int)) = false := decide_eq_false hli
   rw [hkn] at O
   clear CK CL hlt
   go_wp2_with fail
   go_ret
   exact ⟨_, rfl, own_baseW O (Nat.le_succ _), B⟩
attribute [-go_sem] loadCells storeCells in
set_option maxRecDepth 100000 in
set_option maxHeartbeats 16000000 in
theorem implWorldLooksW (A : Array Value) (x : WdX) (w : World) (h : WdS w A x) (ht : txW x) (hwf : wfWd x) :
 Calls Tryz.prog 32 #[.agg A] w fun e w' => ∃ v, e = .returned v ∧ w'.ownsRow w.heap.size 126 3 v (wlL x).length (lrow (wlL x)) ∧ Below w.heap.size w w' := by
 have HS := h
 have hmm := h.weak
 have CK := fun (v : World) (hv : Below w.heap.size w v) => worldokW A x v (HS.below hv).weak ht hwf
 have HT : Hid (wdOk x = true → wlL x = wlN x x.nn) := wlL_t
 have HF : Hid (wdOk x = false → wlL x = []) := wlL_f
 have HI : Hid (wdOk x = true → x.nn ≤ 8 ∧ x.nc = x.nn) := fun q => by (have r := wdOk_parts q; omega)
 have CL0 := fun (v : World) (hv : Below w.heap.size w v) (k : Nat) (hk : k < x.nn) (hc : k < x.nc) => implLookW A x k v (HS.below hv) hk hc hwf
 obtain ⟨p, d, la, lc, ca, cc, na, nk, fa, fc, ba, bc, rfl, hm, h1, h2, h3, h4, h5, h6⟩ := h
 clear h1 h2 h3 h4 h5 h6 hm hmm HS ht hwf
 generalize wlL x = X at *
 generalize wdOk x = ok at *
 have A0 := Below.nw w (.cells (wdV x p d la lc ca cc na nk fa fc ba bc) 52)
 have L := Bo.new w (wdV x p d la lc ca cc na nk fa fc ba bc) 52
 have B := A0
 clear A0
 go_enter Tryz.func32, Tryz.ntmps32
 go_upto_region 2 with fail
 generalize w.alloc (.cells (wdV x p d la lc ca cc na nk fa fc ba bc) 52) = v0 at *
 have hL0 := L.load (P := Tryz.prog) (show ((wdV x p d la lc ca cc na nk fa fc ba bc) : Array Value).size = 18 from rfl)
 go_wp2_with (rw [hL0])
 refine (CK v0 B).mono ?_
 rintro e v1 ⟨rfl, hb⟩
 clear hL0
 replace B := B.trans (hb.mono B.size)
 replace L := L.below hb
 clear hb
 cases ok
 ·have hE := HF.out rfl
  clear HF HT HI CK CL0
  go_wp2_with fail
  go_ret
  exact ⟨_, rfl, by rw [hE]; exact nil_look _ _, B⟩
 have hE := HT.out rfl
 have HE : Hid (X = wlN x x.nn) := hE
 obtain ⟨hn8, hc⟩ := HI.out rfl
 have CL := fun (v : World) (hv : Below w.heap.size w v) (k : Nat) (hk : k < x.nn) => CL0 v hv k hk (by omega)
 clear hE HT HF HI CK CL0 hc
 have hL14 : v1.cell? ⟨w.heap.size, 14, none⟩ = some (.slice na x.nn nk) := L.cell rfl
 go_wp2_with fail
 clear hL14
 have hlo : w.heap.size + 1 ≤ v1.heap.size := L.1
 go_loopw [3, 12] (fun r i wr => ∃ k : Nat, k ≤ x.nn ∧ i = .int .i64 (k : Int) ∧ wr.ownsRow (w.heap.size + 1) 126 3 r (wlN x k).length (lrow (wlN x k)) ∧ Bo wr w.heap.size (wdV x p d la lc ca cc na nk fa fc ba bc) ∧ Below w.heap.size w wr ∧ w.heap.size + 1 ≤ wr.heap.size) (fun _ i _ => x.nn - (intOf i).toNat)
 case atStart => exact ⟨0, Nat.zero_le _, rfl, nil_look _ _, L, B, hlo⟩
 case round =>
  clear L B hlo
  obtain ⟨k, hk, rfl, O, L, B, hlo⟩ := hrel
  by_cases hlt : k < x.nn
  ·have hli : (k : Int) < (x.nn : Int) := by omega
   have hR : wlN x (k + 1) = wlN x k ++ [(nowC x.y (x.XM k) (x.CM k) == 0, nowL x.y (x.XM k) (x.CM k), nowH x.y (x.XM k) (x.CM k))] := rfl
   have HR : Hid (wlN x (k + 1) = wlN x k ++ [(nowC x.y (x.XM k) (x.CM k) == 0, nowL x.y (x.XM k) (x.CM k), nowH x.y (x.XM k) (x.CM k))]) := hR
   have hlen : (wlN x k).length = k := wlN_len x k
   have CLk := fun (v : World) (hv : Below w.heap.size w v) => CL v hv k hlt
   clear hR
   generalize (nowC x.y (x.XM k) (x.CM k) == 0) = kb at *
   generalize nowL x.y (x.XM k) (x.CM k) = lN at *
   generalize nowH x.y (x.XM k) (x.CM k) = hN at *
   have hL0 := L.load (P := Tryz.prog) (show ((wdV x p d la lc ca cc na nk fa fc ba bc) : Array Value).size = 18 from rfl)
   go_wp2_with (rw [hL0])
   refine (CLk wr B).mono ?_
   rintro e w2 ⟨rfl, hb⟩
   clear hL0
   replace B := B.trans (hb.mono B.size)
   replace L := L.below hb
   replace O := own_belowW O hb
   replace hlo := Nat.le_trans hlo hb.size
   clear hb
   go_wp2_with (at_builtin; refine add_look rfl _ _ rfl (w.heap.size + 1) (wlN x k) _ rfl O rfl (by omega) hlo ?_; intro v8 w8 O8 hg8 _)
   have Bg := grown_belowW O hg8 hlo
   replace L := L.belowB Bg (Nat.lt_succ_self _)
   replace B := B.trans (Bg.mono (Nat.le_succ _))
   have hlo2 := Nat.le_trans hlo Bg.size
   have O9 : w8.ownsRow (w.heap.size + 1) 126 3 v8 (wlN x (k + 1)).length (lrow (wlN x (k + 1))) := by rw [HR.out]; exact O8
   clear Bg O O8 hg8 hlo HR hlen
   go_wp2_with fail
   go_roundw
   case rel => exact ⟨k + 1, by omega, by go_num, O9, L, B, hlo2⟩
   case measure => simp [intOf]; omega
  have hkn : k = x.nn := by omega
  have hli : ¬ (k : Int) < (x.nn : Int) := by omega
  rw [hkn] at O
  clear CL hlt
  go_wp2_with fail
  go_ret
  exact ⟨_, rfl, by rw [HE.out]; exact own_baseW O (Nat.le_succ _), B⟩
end Go.Proofs.YtddijpjgkifngaaGreat
namespace Go.Proofs.YtddijpjgkifngaaGreat
open Go.RowKit
set_option linter.unusedVariables false
theorem markLook_O (n c lo hi : Nat) (a : Option Addr) (F : Nat → Value) (q0 : Int) (w : World) (hn : n ≤ 1048576) (hq : 0 < q0) (hq1 : q0 ≤ 1073741824) (h : Rwo w lo hi 126 3 a n c F) :
 Calls Tryz.prog 34 #[.slice a n c, .int .i64 q0] w fun e w' => e = .returned (.int .i64 (q0 + (n : Int) * 3)) ∧ SrcC w' a (n * 3) (mkLook q0) ∧ Btw lo hi w w' := by
 have hlt := fun g hg => h.lt (g := g) hg
 rcases h.1.2 with ⟨he, h0⟩ | ⟨g, cap, cur, he, _⟩
 ·simp at he
  obtain ⟨rfl, rfl, rfl⟩ := he
  exact (markLookS_zero none 0 q0 w).mono fun e w' ⟨h1, h2⟩ => ⟨by rw [h1]; simp, .inl (by omega), h2 ▸ Btw.ofBelow (Below.refl _ _)⟩
 ·simp at he
  obtain ⟨rfl, rfl⟩ := he
  have hg := hlt g rfl
  obtain ⟨h1, h2, _, h3⟩ := ownF_row (mkLook q0) h.1
  exact (markLookS_row g (c * 3) n c q0 w hn hq hq1 (Nat.mul_le_mul_right _ h2) h3).mono fun e w' ⟨r1, r2, r3⟩ => ⟨by rw [r1], .inr ⟨g, 0, rfl, r2.cs (Nat.mul_le_mul_right _ h2)⟩, ⟨r3.1, r3.2.1, r3.2.2.1, r3.2.2.2.1, fun i hi ho => r3.2.2.2.2 i hi (by omega)⟩⟩
attribute [-go_sem] loadCells storeCells in
set_option maxRecDepth 100000 in
set_option maxHeartbeats 16000000 in
theorem lawWorldLooks (A : Array Value) (x : WdX) (w : World) (HA : WdW w A x) (ht : txW x) (hwf : wfWd x) :
 Calls Tryz.prog 7 #[.agg A] w fun e w' => e = .returned (.bool true) ∧ Below w.heap.size w w' := by
 have B := Below.nw w (.cells A 37)
 have L := Bo.new w A 37
 have hA := HA.size
 have CS := fun (v : World) (hv : Below w.heap.size w v) (R : Array Value) (h : WdS v R x) => specWorldLooksW R x v h ht
 have CP := fun (v : World) (hv : Below w.heap.size w v) (R : Array Value) (h : WdS v R x) => implWorldLooksW R x v h ht hwf
 have CZ := fun (v : World) (h : Below w.heap.size w v) => szWorldU A x v (HA.below h) ht
 have hK8 := wlL_len x
 generalize wlL x = K at *
 have hKn : K.length ≤ 1048576 := by omega
 have hKm : K.length ≤ maxLen := by unfold maxLen; omega
 have HS : Hid (WdW w A x) := HA
 clear HA hwf ht
 go_enter Tryz.func7, Tryz.ntmps7
 go_upto_region 2 with fail
 generalize w.alloc (.cells A 37) = v0 at *
 have hL := L.load (P := Tryz.prog) hA
 go_wp2_with (rw [hL])
 refine (CZ v0 B).mono ?_
 rintro e v01 ⟨Z, rfl, hZ, hb⟩
 clear hL CZ
 replace B := B.trans (hb.mono B.size)
 replace L := L.below hb
 clear hb
 by_cases hz : Z < 0
 ·clear CS CP hZ
  go_wp2_with fail
  go_ret
  exact ⟨rfl, B⟩
 have hsh := hZ (by omega)
 clear hZ
 have CT := fun (v : World) (h : Below w.heap.size w v) => toWorldU A x v (HS.out.below h) hsh
 clear hsh
 generalize v01 = v0 at *
 have hL := L.load (P := Tryz.prog) hA
 go_wp2_with (rw [hL])
 refine (CT v0 B).mono ?_
 rintro e v1 ⟨R0, rfl, O0, hb⟩
 clear hL
 replace B := B.trans (hb.mono B.size)
 replace L := L.below hb
 clear hb
 go_wp2_with fail
 refine (CS v1 B R0 O0.src).mono ?_
 rintro e v2 ⟨u0, rfl, S0, hb⟩
 have S0q : v2.ownsRow v1.heap.size 126 3 u0 K.length ((List.range (K.length * 3)).map (MFLook (gK K))) := S0
 obtain ⟨a0, c0, rfl, -, -, -⟩ := ownF_src S0q
 have W0 := rwo_of S0q
 have y0 : v1.heap.size ≤ v2.heap.size := hb.size
 have b0 : w.heap.size < v1.heap.size := L.1
 clear S0 S0q
 replace B := B.trans (hb.mono B.size)
 replace L := L.below hb
 clear hb
 clear O0 CS
 have hL := L.load (P := Tryz.prog) hA
 go_wp2_with (rw [hL])
 refine (CT v2 B).mono ?_
 rintro e v3 ⟨RX, rfl, OX, hb⟩
 clear hL
 have y5 : v2.heap.size ≤ v3.heap.size := hb.size
 replace B := B.trans (hb.mono B.size)
 replace L := L.below hb
 replace W0 := W0.below hb
 clear hb
 have hRX := OX.src.weak.size
 have hst := storeNew (P := Tryz.prog) v3 (#[.int .i64 0, .int .i64 0, .int .i64 0, .int .i64 0, .int .i64 0, .int .i64 0, .int .i64 0, .int .i64 0, .int .i64 0, .int .i64 0, .slice none 0 0, .slice none 0 0, .int .i64 0, .slice none 0 0, .slice none 0 0, .int .i64 0, .slice none 0 0, .slice none 0 0]) RX 52 (by rw [hRX]; rfl) OX.src.weak.one
 have hb := Below.nw v3 (.cells RX 52)
 have X := Bo.new v3 RX 52
 have y6 : v3.heap.size ≤ (v3.alloc (.cells RX 52)).heap.size := hb.size
 go_upto_region 7 with (rw [hst])
 clear hst
 replace B := B.trans (hb.mono B.size)
 replace L := L.below hb
 replace W0 := W0.below hb
 replace OX := OX.below hb
 clear hb
 generalize v3.alloc (.cells RX 52) = v4 at *
 have hL := X.load (P := Tryz.prog) hRX
 go_wp2_with (rw [hL])
 refine (CP v4 B RX OX.src).mono ?_
 rintro e v5 ⟨u1, rfl, S1, hb⟩
 clear hL
 have S1q : v5.ownsRow v4.heap.size 126 3 u1 K.length ((List.range (K.length * 3)).map (MFLook (gK K))) := S1
 obtain ⟨a1, c1, rfl, -, -, -⟩ := ownF_src S1q
 have W1 := rwo_of S1q
 have y1 : v4.heap.size ≤ v5.heap.size := hb.size
 have b1 : w.heap.size < v4.heap.size := L.1
 clear S1 S1q
 replace B := B.trans (hb.mono B.size)
 replace L := L.below hb
 replace W0 := W0.below hb
 replace OX := OX.below hb
 replace X := X.below hb
 clear hb
 go_wp2_with fail
 refine (eqLookS_src a1 a0 K.length c1 c0 (gK K) v5 hKm W1.srcC W0.srcC).mono ?_
 rintro e v6 ⟨rfl, hb⟩
 have ye : v5.heap.size ≤ v6.heap.size := hb.size
 replace B := B.trans (hb.mono B.size)
 replace L := L.below hb
 replace W0 := W0.below hb
 replace OX := OX.below hb
 replace X := X.below hb
 replace W1 := W1.below hb
 clear hb
 go_upto_region 10 with fail
 have SK : Hid (∀ w', Below v6.heap.size v6 w' → (fun w' => (loadCells ⟨v3.heap.size, 0, none⟩ 18).run Tryz.prog w' = .ok RX w' ∧ (loadCells ⟨w.heap.size, 0, none⟩ 18).run Tryz.prog w' = .ok A w') w') := fun w' hw => ⟨(X.below hw).load hRX, (L.below hw).load hA⟩
 refine wp_region_held_drew (S := (fun w' => (loadCells ⟨v3.heap.size, 0, none⟩ 18).run Tryz.prog w' = .ok RX w' ∧ (loadCells ⟨w.heap.size, 0, none⟩ 18).run Tryz.prog w' = .ok A w')) (by kernel_rfl) ?_ (fun hHeld => ?_)
 ·first | exact SK.out _ XB | exact SK.out _ (Below.drew (Below.refl _ _))
 have XB : Below v6.heap.size v6 v6.drew := Below.drew (Below.refl _ _)
 generalize v6.drew = vx at *
 refine zTk 0 ?_
 refine zTk 1 ?_
 refine wpAnyH_ready (rs := [2]) (by kernel_rfl) (by simp) ?_
 refine AllReadyH.cons (by rw [List.getElem?_toArray]; rfl) (fun Kc hK => ?_) AllReadyH.nil
 go_simp
 refine (CT vx (B.trans (XB.mono B.size))).mono ?_; rintro ee vy ⟨RY, rfl, OY, hbl⟩; (replace XB := XB.trans (hbl.mono XB.size)); (clear hbl); (generalize hvv : vy = vx at *); (clear hvv)
 (try go_wp2_with fail)
 refine hK.out _ _ ?_ (fun hHeld => ?_)
 ·first | exact SK.out _ XB | exact SK.out _ (Below.drew (Below.refl _ _))
 clear hK Kc
 (try simp only [Act.put, zSb, zS0, zS1])
 refine wpAnyH_ready (rs := [3]) (by kernel_rfl) (by simp) ?_
 refine AllReadyH.cons (by rw [List.getElem?_toArray]; rfl) (fun Kc hK => ?_) AllReadyH.nil
 go_simp
 refine (eqWorldW RX RY x vx (OX.below XB).src.weak OY.src.weak).mono ?_; rintro ee vx ⟨rfl, hbl⟩; (replace XB := XB.trans (hbl.mono XB.size)); (clear hbl OY)
 (try go_wp2_with fail)
 refine hK.out _ _ ?_ (fun hHeld => ?_)
 ·first | exact SK.out _ XB | exact SK.out _ (Below.drew (Below.refl _ _))
 clear hK Kc
 (try simp only [Act.put, zSb, zS0, zS1])
 refine zTk 4 ?_
 refine wpAnyH_done (by kernel_rfl) ?_ _
 have hb := XB
 have zx : v6.heap.size ≤ vx.heap.size := XB.size
 clear XB SK
 replace B := B.trans (hb.mono B.size)
 replace L := L.below hb
 replace W0 := W0.below hb
 replace OX := OX.below hb
 replace X := X.below hb
 replace W1 := W1.below hb
 clear hb
 have hL := X.load (P := Tryz.prog) hRX
 go_wp2_with (rw [hL])
 refine (markWorldU RX x v2.heap.size v3.heap.size vx OX).mono ?_
 rintro e v7 ⟨Q, rfl, hQ, hb⟩
 clear hL OX X
 have yx : v5.heap.size ≤ vx.heap.size := by omega
 have zy := hb.2.2.2.1
 replace B := B.trans ((hb.belowL (show v2.heap.size ≤ vx.heap.size by omega)).mono (show w.heap.size ≤ v2.heap.size by omega))
 replace L := L.btw hb (.inl (by omega))
 replace W0 := W0.btw hb (.inl (by omega))
 replace W1 := W1.btw hb (.inr (by omega))
 clear hb
 have hQd : decide (Q < 0) = false := decide_eq_false (by omega)
 have hQn : ¬ Q < 0 := by omega
 go_wp2_with fail
 refine (eqLookS_src a1 a0 K.length c1 c0 (gK K) v7 hKm W1.srcC W0.srcC).mono ?_
 rintro e v8 ⟨rfl, hb⟩
 have zz : v7.heap.size ≤ v8.heap.size := hb.size
 replace B := B.trans (hb.mono B.size)
 replace L := L.below hb
 replace W0 := W0.below hb
 replace W1 := W1.below hb
 clear hb
 clear hQ hQd hQn
 obtain ⟨m, hm⟩ : ∃ z : Int, 1 + (K.length : Int) * 3 = z := ⟨_, rfl⟩
 have HM : Hid (1 + (K.length : Int) * 3 = m) := hm
 have hmd : decide (m < 0) = false := decide_eq_false (by omega)
 have hmn : ¬ m < 0 := by omega
 have hmm : (m != m) = false := by simp
 clear hm
 go_wp2_with fail
 refine (markLook_O K.length c1 v4.heap.size v5.heap.size a1 (MFLook (gK K)) 1 v8 hKn (by decide) (by decide) W1).mono ?_
 rintro e v9 ⟨rfl, M1, hb⟩
 rw [HM.out]
 replace B := B.trans ((hb.belowL (show v4.heap.size ≤ v8.heap.size by omega)).mono (show w.heap.size ≤ v4.heap.size by omega))
 replace L := L.btw hb (.inl (by omega))
 replace W0 := W0.btw hb (.inl (by omega))
 clear hb W1
 go_wp2_with fail
 refine (heldLookS_any a1 K.length c1 1 v9 hKn (by decide) (by decide) M1).mono ?_
 rintro e v10 ⟨rfl, hbw⟩
 subst hbw
 rw [HM.out]
 have hL := L.load (P := Tryz.prog) hA
 go_wp2_with (rw [hL])
 refine (CT v9 B).mono ?_
 rintro e v11 ⟨RZ, rfl, OZ, hb⟩
 clear hL
 replace B := B.trans (hb.mono B.size)
 replace L := L.below hb
 replace W0 := W0.below hb
 replace M1 := M1.below hb
 clear hb
 go_wp2_with fail
 refine (CP v11 B RZ OZ.src).mono ?_
 rintro e v12 ⟨u2, rfl, S2, hb⟩
 have S2q : v12.ownsRow v11.heap.size 126 3 u2 K.length ((List.range (K.length * 3)).map (MFLook (gK K))) := S2
 obtain ⟨a2, c2, rfl, -, -, -⟩ := ownF_src S2q
 have W2 := rwo_of S2q
 have y2 : v11.heap.size ≤ v12.heap.size := hb.size
 have b2 : w.heap.size < v11.heap.size := L.1
 clear S2 S2q
 clear y2 b2
 replace B := B.trans (hb.mono B.size)
 replace L := L.below hb
 replace W0 := W0.below hb
 replace M1 := M1.below hb
 clear hb
 go_wp2_with fail
 refine (eqLookS_src a2 a0 K.length c2 c0 (gK K) v12 hKm W2.srcC W0.srcC).mono ?_
 rintro e v13 ⟨rfl, hb⟩
 replace B := B.trans (hb.mono B.size)
 replace L := L.below hb
 replace W0 := W0.below hb
 replace M1 := M1.below hb
 replace W2 := W2.below hb
 clear hb
 go_wp2_with fail
 refine (heldLookS_any a1 K.length c1 1 v13 hKn (by decide) (by decide) M1).mono ?_
 rintro e v14 ⟨rfl, hbw⟩
 subst hbw
 rw [HM.out]
 go_wp2_with fail
 go_ret
 exact ⟨rfl, B⟩
end Go.Proofs.YtddijpjgkifngaaGreat
