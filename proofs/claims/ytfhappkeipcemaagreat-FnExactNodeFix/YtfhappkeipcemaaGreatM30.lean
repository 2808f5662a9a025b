/- Rows of structs in memory; the text of a mark. Rows of peers: what the laws make of them, and whether two are the same. When a table is right. A node while a call works on it (the program), over arrays of cells. -/
import Derived.Test.YtfhappkeipcemaaGreatM0
import Derived.Test.YtfhappkeipcemaaGreatM29
namespace Go.Proofs.YtfhappkeipcemaaGreat
open Go.RowKit
set_option linter.unusedVariables false
theorem Cs.but {w w' : World} {p b off N : Nat} {F : Nat → Value} (h : Cs w b off N F) (hb : But p w w') (hp : b ≠ p) : Cs w' b off N F :=
  ⟨Nat.lt_of_lt_of_le h.1 hb.2.2.2.1, fun j hj => by rw [hb.cell h.1 hp]; exact h.2 j hj⟩
theorem RowF.cs {w : World} {b N m : Nat} {T : TypeId} {F : Nat → Value} (h : RowF w b T N m F) (hm : m ≤ N) : Cs w b 0 m F := by
  obtain ⟨g, hr, hg⟩ := h
  exact ⟨hr.lt, fun j hj => by rw [Nat.zero_add, hr.cell (by omega), hg j hj]⟩
theorem ownF_row {w : World} {base : Nat} {T : TypeId} {s g n cap : Nat} {xs : List Value} (F : Nat → Value) (h : w.ownsRow base T s (.slice (some ⟨g, 0, none⟩) n cap) n xs) : base ≤ g ∧ n ≤ cap ∧ cap ≤ maxLen ∧ RowF w g T (cap * s) 0 F := by
  rcases h.2 with ⟨h, _⟩ | ⟨g', cap', cur, he, h2, h3, h4, h5, h6, h7⟩
  · simp at h
  · simp at he
    obtain ⟨rfl, rfl⟩ := he
    exact ⟨h2, h4, h5, _, ⟨cur, h3, by omega, fun i hi => by rw [Array.getElem?_eq_getElem (by omega)]; exact congrArg some (by rw [Array.getD_eq_getD_getElem?, Array.getElem?_eq_getElem (by omega)]; rfl : cur[i]'(by omega) = cur.getD i undef)⟩, fun j hj => absurd hj (Nat.not_lt_zero _)⟩
end Go.Proofs.YtfhappkeipcemaaGreat
namespace Go.Proofs.YtfhappkeipcemaaGreat
open Go.RowKit
set_option linter.unusedVariables false
theorem Bx5.but {w w' : World} {k q : Nat} {u0 u1 u2 u3 u4 : Value} (h : Bx5 w k u0 u1 u2 u3 u4) (hb : But q w w') (hq : k ≠ q) : Bx5 w' k u0 u1 u2 u3 u4 := by
  obtain ⟨h0, h1, h2, h3, h4, h5, f1, f2, f3, f4, f5⟩ := h
  exact ⟨Nat.lt_of_lt_of_le h0 hb.2.2.2.1, by rw [hb.cell h0 hq]; exact h1, by rw [hb.cell h0 hq]; exact h2, by rw [hb.cell h0 hq]; exact h3, by rw [hb.cell h0 hq]; exact h4, by rw [hb.cell h0 hq]; exact h5, by rw [hb.frozen h0 hq]; exact f1, by rw [hb.frozen h0 hq]; exact f2, by rw [hb.frozen h0 hq]; exact f3, by rw [hb.frozen h0 hq]; exact f4, by rw [hb.frozen h0 hq]; exact f5⟩
theorem mkPeer_i {q : Int} {k j : Nat} {x : Int} (hj : j < 4) (h : x = q + ((k * 5 + j : Nat) : Int)) : mkPeer q (k * 5 + j) = .int .i64 x := by rw [mkPeer, if_neg (by omega), h]
theorem mkPeer_b {q : Int} {k : Nat} {x : Int} (h : x = q + ((k * 5 + 4 : Nat) : Int)) : mkPeer q (k * 5 + 4) = .bool (x % 3 == 0) := by rw [mkPeer, if_pos (by omega), h]
set_option maxHeartbeats 8000000 in
theorem markPeerS_row (b N n c : Nat) (q0 : Int) (w : World) (hn : n ≤ 1048576) (hq : 0 < q0) (hq1 : q0 ≤ 1073741824) (hN : n * 5 ≤ N) (h : RowF w b 171 N 0 (mkPeer q0)) :
    Calls Tryz.prog 75 #[.slice (some ⟨b, 0, none⟩) n c, .int .i64 q0] w fun e w' => e = .returned (.int .i64 (q0 + (n : Int) * 5)) ∧ RowF w' b 171 N (n * 5) (mkPeer q0) ∧ But b w w' := by
  go_enter Tryz.func75, Tryz.ntmps75
  go_wp2_with fail
  go_loopw [1, 5] (fun q i wr => ∃ (k : Nat) (Q : Int), k ≤ n ∧ i = .int .i64 k ∧ q = .int .i64 Q ∧ Q = q0 + (k : Int) * 5 ∧ RowF wr b 171 N (k * 5) (mkPeer q0) ∧ But b w wr) (fun _ i _ => n - (intOf i).toNat)
  case atStart => exact ⟨0, q0, Nat.zero_le _, rfl, rfl, by omega, h.eqm (by omega), But.refl _ _⟩
  case round =>
    obtain ⟨k, Q, hk, rfl, rfl, hQ, row, hB⟩ := hrel
    clear h
    have HQ : Hid (Q = q0 + (k : Int) * 5) := hQ
    by_cases hlt : k < n
    · have hli : (k : Int) < (n : Int) := by omega
      have Q0 : 0 < Q := by omega
      have Q1 : Q ≤ 1073741824 + 1048576 * 5 := by omega
      clear hQ
      have hlr := row.lt
      obtain ⟨⟨v0, e0⟩, f0⟩ := row.facts (k * 5) (by omega)
      obtain ⟨⟨v1, e1⟩, f1⟩ := row.facts (k * 5 + 1) (by omega)
      obtain ⟨⟨v2, e2⟩, f2⟩ := row.facts (k * 5 + 2) (by omega)
      obtain ⟨⟨v3, e3⟩, f3⟩ := row.facts (k * 5 + 3) (by omega)
      obtain ⟨⟨v4, e4⟩, f4⟩ := row.facts (k * 5 + 4) (by omega)
      go_wp2_with fail
      go_roundw
      case rel => exact ⟨k + 1, _, by omega, by go_num, rfl, by have := HQ.out; omega, (RowF.put (RowF.put (RowF.put (RowF.put (RowF.put row (k * 5 + 1) (by omega) (mkPeer_i (k := k) (j := 0) (by decide) (by have := HQ.out; omega))) (k * 5 + 2) (by omega) (mkPeer_i (k := k) (j := 1) (by decide) (by have := HQ.out; omega))) (k * 5 + 3) (by omega) (mkPeer_i (k := k) (j := 2) (by decide) (by have := HQ.out; omega))) (k * 5 + 4) (by omega) (mkPeer_i (k := k) (j := 3) (by decide) (by have := HQ.out; omega))) ((k + 1) * 5) (by omega) (mkPeer_b (k := k) (by have := HQ.out; omega))), (((((hB.setCell _ _).setCell _ _).setCell _ _).setCell _ _).setCell _ _)⟩
      case measure => simp [intOf]; omega
    · have hkn : k = n := by omega
      subst hkn
      have hli : ¬ (k : Int) < (k : Int) := by omega
      subst hQ
      go_wp2_with fail
      go_ret
      exact ⟨rfl, row, hB⟩
set_option maxHeartbeats 400000 in
theorem markPeerS_zero (a : Option Addr) (c : Nat) (q0 : Int) (w : World) :
    Calls Tryz.prog 75 #[.slice a 0 c, .int .i64 q0] w fun e w' => e = .returned (.int .i64 q0) ∧ w = w' := by
  go_enter Tryz.func75, Tryz.ntmps75
  go_wp2_with fail
  go_loopw [1, 5] (fun q i wr => i = .int .i64 0 ∧ q = .int .i64 q0 ∧ w = wr) (fun _ i _ => 0)
  case atStart => exact ⟨rfl, rfl, by first | rfl | trivial⟩
  case round =>
    obtain ⟨rfl, rfl, rfl⟩ := hrel
    go_wp2_with fail
    go_ret
    exact ⟨rfl, rfl⟩
set_option maxRecDepth 100000 in
set_option maxHeartbeats 8000000 in
theorem heldPeerS_some (b off n c : Nat) (q0 : Int) (w : World) (hn : n ≤ 1048576) (hq : 0 < q0) (hq1 : q0 ≤ 1073741824) (h : Cs w b off (n * 5) (mkPeer q0)) :
    Calls Tryz.prog 78 #[.slice (some ⟨b, off, none⟩) n c, .int .i64 q0] w fun e w' => e = .returned (.int .i64 (q0 + (n : Int) * 5)) ∧ w = w' := by
  have HP : Hid (Cs w b off (n * 5) (mkPeer q0)) := h
  clear h
  go_enter Tryz.func78, Tryz.ntmps78
  go_wp2_with fail
  go_loopw [1, 5] (fun q i wr => ∃ (k : Nat) (Q : Int), k ≤ n ∧ i = .int .i64 k ∧ q = .int .i64 Q ∧ Q = q0 + (k : Int) * 5 ∧ w = wr) (fun _ i _ => n - (intOf i).toNat)
  case atStart => exact ⟨0, q0, Nat.zero_le _, rfl, rfl, by omega, by first | rfl | trivial⟩
  case round =>
    obtain ⟨k, Q, hk, rfl, rfl, hQ, rfl⟩ := hrel
    have HQ : Hid (Q = q0 + (k : Int) * 5) := hQ
    by_cases hlt : k < n
    · have hli : (k : Int) < (n : Int) := by omega
      have Q0 : 0 < Q := by omega
      have Q1 : Q ≤ 1073741824 + 1048576 * 5 := by omega
      have hP := HP.out
      clear hQ
      have c0 : w.cell? ⟨b, off + k * 5, none⟩ = some (.int .i64 (Q)) := by have q := hP.2 (k * 5) (by omega); rw [show mkPeer q0 (k * 5) = .int .i64 (Q) from mkPeer_i (k := k) (j := 0) (x := Q) (by decide) (by have := HQ.out; omega)] at q; exact q
      have c1 : w.cell? ⟨b, off + k * 5 + 1, none⟩ = some (.int .i64 (Q + 1)) := by have q := hP.2 (k * 5 + 1) (by omega); rw [show mkPeer q0 (k * 5 + 1) = .int .i64 (Q + 1) from mkPeer_i (k := k) (j := 1) (x := Q + 1) (by decide) (by have := HQ.out; omega)] at q; exact q
      have c2 : w.cell? ⟨b, off + k * 5 + 2, none⟩ = some (.int .i64 (Q + 1 + 1)) := by have q := hP.2 (k * 5 + 2) (by omega); rw [show mkPeer q0 (k * 5 + 2) = .int .i64 (Q + 1 + 1) from mkPeer_i (k := k) (j := 2) (x := Q + 1 + 1) (by decide) (by have := HQ.out; omega)] at q; exact q
      have c3 : w.cell? ⟨b, off + k * 5 + 3, none⟩ = some (.int .i64 (Q + 1 + 1 + 1)) := by have q := hP.2 (k * 5 + 3) (by omega); rw [show mkPeer q0 (k * 5 + 3) = .int .i64 (Q + 1 + 1 + 1) from mkPeer_i (k := k) (j := 3) (x := Q + 1 + 1 + 1) (by decide) (by have := HQ.out; omega)] at q; exact q
      have c4 : w.cell? ⟨b, off + k * 5 + 4, none⟩ = some (.bool ((Q + 1 + 1 + 1 + 1) % 3 == 0)) := by have q := hP.2 (k * 5 + 4) (by omega); rw [show mkPeer q0 (k * 5 + 4) = .bool ((Q + 1 + 1 + 1 + 1) % 3 == 0) from mkPeer_b (k := k) (x := Q + 1 + 1 + 1 + 1) (by have := HQ.out; omega)] at q; exact q
      have hbl := hP.1
      clear hP
      go_wp2_with fail
      go_roundw
      case rel => exact ⟨k + 1, _, by omega, by go_num, rfl, by have := HQ.out; omega, by first | rfl | trivial⟩
      case measure => simp [intOf]; omega
    · have hkn : k = n := by omega
      subst hkn
      have hli : ¬ (k : Int) < (k : Int) := by omega
      subst hQ
      go_wp2_with fail
      go_ret
      exact ⟨rfl, rfl⟩
set_option maxHeartbeats 400000 in
theorem heldPeerS_zero (a : Option Addr) (c : Nat) (q0 : Int) (w : World) :
    Calls Tryz.prog 78 #[.slice a 0 c, .int .i64 q0] w fun e w' => e = .returned (.int .i64 q0) ∧ w = w' := by
  go_enter Tryz.func78, Tryz.ntmps78
  go_wp2_with fail
  go_loopw [1, 5] (fun q i wr => i = .int .i64 0 ∧ q = .int .i64 q0 ∧ w = wr) (fun _ i _ => 0)
  case atStart => exact ⟨rfl, rfl, by first | rfl | trivial⟩
  case round =>
    obtain ⟨rfl, rfl, rfl⟩ := hrel
    go_wp2_with fail
    go_ret
    exact ⟨rfl, rfl⟩
theorem heldPeerS_any (a : Option Addr) (n c : Nat) (q0 : Int) (w : World) (hn : n ≤ 1048576) (hq : 0 < q0) (hq1 : q0 ≤ 1073741824) (h : SrcC w a (n * 5) (mkPeer q0)) :
    Calls Tryz.prog 78 #[.slice a n c, .int .i64 q0] w fun e w' => e = .returned (.int .i64 (q0 + (n : Int) * 5)) ∧ w = w' := by
  rcases h with h0 | ⟨b, off, rfl, hp⟩
  · have hn0 : n = 0 := by omega
    subst hn0
    exact (heldPeerS_zero a c q0 w).mono fun e w' ⟨h1, h2⟩ => ⟨by rw [h1]; simp, h2⟩
  · exact heldPeerS_some b off n c q0 w hn hq hq1 hp
end Go.Proofs.YtfhappkeipcemaaGreat
namespace Go.Proofs.YtfhappkeipcemaaGreat
open Go.RowKit
set_option linter.unusedVariables false
theorem IB3.but {w w' : World} {j q : Nat} {ep us : Int} {a : Option Addr} {n c : Nat} (h : IB3 w j ep us a n c) (hb : But q w w') (hq : j ≠ q) : IB3 w' j ep us a n c :=
  ⟨Nat.lt_of_lt_of_le h.1 hb.2.2.2.1, by rw [hb.cell h.1 hq]; exact h.2.1, by rw [hb.cell h.1 hq]; exact h.2.2.1, by rw [hb.cell h.1 hq]; exact h.2.2.2⟩
theorem Bk4.but {w w' : World} {j q : Nat} {x0 x1 x2 x3 : Int} (h : Bk4 w j x0 x1 x2 x3) (hb : But q w w') (hq : j ≠ q) : Bk4 w' j x0 x1 x2 x3 :=
  ⟨Nat.lt_of_lt_of_le h.1 hb.2.2.2.1, by rw [hb.cell h.1 hq]; exact h.2.1, by rw [hb.cell h.1 hq]; exact h.2.2.1, by rw [hb.cell h.1 hq]; exact h.2.2.2.1, by rw [hb.cell h.1 hq]; exact h.2.2.2.2⟩
end Go.Proofs.YtfhappkeipcemaaGreat
namespace Go.Proofs.YtfhappkeipcemaaGreat
open Go.RowKit
set_option linter.unusedVariables false
attribute [-go_sem] loadCells storeCells in
set_option maxRecDepth 100000 in
set_option maxHeartbeats 8000000 in
theorem wkNode (y : CfX) (x : NdX) (ct : Int) (p : Option Addr) (d : Nat) (aa : Option Addr) (ac : Nat) (pa : Option Addr) (pc : Nat) (ha : Option Addr) (hc k : Nat) (w : World) (HK : Bo w k (wkV y x ct p d aa ac pa pc ha hc)) :
    Calls Tryz.prog 72 #[.pointer (some ⟨k, 0, none⟩)] w fun e w' => e = .returned (.agg (ndV x aa ac pa pc ha hc)) ∧ Below w.heap.size w w' := by
  have A0 := Below.nw w (.cells #[.int .i64 0, .int .i64 0, .int .i64 0, .int .i64 0, .bool false, .int .i64 0, .int .i64 0, .int .i64 0, .int .i64 0, .int .i64 0, .slice none 0 0, .slice none 0 0, .bool false, .int .i64 0, .slice none 0 0, .int .i64 0] 66)
  have R := Bo.new w #[.int .i64 0, .int .i64 0, .int .i64 0, .int .i64 0, .bool false, .int .i64 0, .int .i64 0, .int .i64 0, .int .i64 0, .int .i64 0, .slice none 0 0, .slice none 0 0, .bool false, .int .i64 0, .slice none 0 0, .int .i64 0] 66
  have K := HK.below A0
  have HK0 : Hid (Bo w k (wkV y x ct p d aa ac pa pc ha hc)) := HK
  have hk := HK.1
  have B := A0
  clear A0 HK
  go_enter Tryz.func72, Tryz.ntmps72
  go_upto_region 1 with fail
  generalize w.alloc (.cells #[.int .i64 0, .int .i64 0, .int .i64 0, .int .i64 0, .bool false, .int .i64 0, .int .i64 0, .int .i64 0, .int .i64 0, .int .i64 0, .slice none 0 0, .slice none 0 0, .bool false, .int .i64 0, .slice none 0 0, .int .i64 0] 66) = v0 at *
  have SK : Hid (∀ w', Below w.heap.size w w' → (fun w' => w'.cell? ⟨k, 17, none⟩ = some (.int .i64 x.ni) ∧ (loadCells ⟨k, 18, none⟩ 3).run Tryz.prog w' = .ok #[.int .i64 x.mo, .int .i64 x.ep, .int .i64 x.si] w' ∧ (loadCells ⟨k, 21, none⟩ 4).run Tryz.prog w' = .ok #[.bool x.kn, .int .i64 x.lo, .int .i64 x.hi, .int .i64 x.la] w' ∧ (loadCells ⟨k, 0, none⟩ 3).run Tryz.prog w' = .ok #[.int .i64 x.te, .int .i64 x.us, .slice aa x.na ac] w' ∧ w'.cell? ⟨k, 25, none⟩ = some (.slice pa x.np pc) ∧ (loadCells ⟨k, 3, none⟩ 2).run Tryz.prog w' = .ok #[.bool x.hs, .int .i64 x.ls] w' ∧ w'.cell? ⟨k, 26, none⟩ = some (.slice ha x.nh hc) ∧ w'.cell? ⟨k, 27, none⟩ = some (.int .i64 x.se)) w') := fun w' hw => ⟨(HK0.out.below hw).cell rfl, (HK0.out.below hw).loadAt (P := Tryz.prog) 18 3 (show 18 + 3 ≤ 28 by decide), (HK0.out.below hw).loadAt (P := Tryz.prog) 21 4 (show 21 + 4 ≤ 28 by decide), (HK0.out.below hw).loadAt (P := Tryz.prog) 0 3 (show 0 + 3 ≤ 28 by decide), (HK0.out.below hw).cell rfl, (HK0.out.below hw).loadAt (P := Tryz.prog) 3 2 (show 3 + 2 ≤ 28 by decide), (HK0.out.below hw).cell rfl, (HK0.out.below hw).cell rfl⟩
  refine wp_region_held_drew (S := (fun w' => w'.cell? ⟨k, 17, none⟩ = some (.int .i64 x.ni) ∧ (loadCells ⟨k, 18, none⟩ 3).run Tryz.prog w' = .ok #[.int .i64 x.mo, .int .i64 x.ep, .int .i64 x.si] w' ∧ (loadCells ⟨k, 21, none⟩ 4).run Tryz.prog w' = .ok #[.bool x.kn, .int .i64 x.lo, .int .i64 x.hi, .int .i64 x.la] w' ∧ (loadCells ⟨k, 0, none⟩ 3).run Tryz.prog w' = .ok #[.int .i64 x.te, .int .i64 x.us, .slice aa x.na ac] w' ∧ w'.cell? ⟨k, 25, none⟩ = some (.slice pa x.np pc) ∧ (loadCells ⟨k, 3, none⟩ 2).run Tryz.prog w' = .ok #[.bool x.hs, .int .i64 x.ls] w' ∧ w'.cell? ⟨k, 26, none⟩ = some (.slice ha x.nh hc) ∧ w'.cell? ⟨k, 27, none⟩ = some (.int .i64 x.se))) (by kernel_rfl) ?_ (fun hHeld => ?_)
  · first | exact SK.out _ B1 | exact SK.out _ XF | exact SK.out _ (B.trans ((Below.drew (Below.refl _ _)).mono B.size))
  have XB : Below v0.heap.size v0 v0.drew := Below.drew (Below.refl _ _)
  have R1 := R.below XB
  have B1 := B.trans (XB.mono B.size)
  generalize v0.drew = vx at *
  have hU : (ndV x aa ac pa pc ha hc).size = 16 := rfl
  have hst : (storeCells ⟨w.heap.size, 0, none⟩ [.int .i64 x.ni, .int .i64 x.mo, .int .i64 x.ep, .int .i64 x.si, .bool x.kn, .int .i64 x.lo, .int .i64 x.hi, .int .i64 x.la, .int .i64 x.te, .int .i64 x.us, .slice aa x.na ac, .slice pa x.np pc, .bool x.hs, .int .i64 x.ls, .slice ha x.nh hc, .int .i64 x.se] 0).run Tryz.prog vx = .ok () (putA vx w.heap.size 0 (ndV x aa ac pa pc ha hc).toList) := Bo.store (P := Tryz.prog) (b := 0) (ndV x aa ac pa pc ha hc).toList 0 0 R1 rfl (by simp [hU]) (ndV_one _ _ _ _ _ _ _)
  have XF : Below w.heap.size w (putA vx w.heap.size 0 (ndV x aa ac pa pc ha hc).toList) := putA_below (k := w.heap.size) (ndV x aa ac pa pc ha hc).toList w vx 0 B1 (Nat.le_refl _)
  have RF := R1.putW (U := (ndV x aa ac pa pc ha hc)) hU
  generalize putA vx w.heap.size 0 (ndV x aa ac pa pc ha hc).toList = vf at *
  refine zTk 0 ?_
  (try simp only [Act.put, zSb, zS0, zS1])
  refine zTk 1 ?_
  (try simp only [Act.put, zSb, zS0, zS1])
  refine zTk 2 ?_
  (try simp only [Act.put, zSb, zS0, zS1])
  refine zTk 3 ?_
  (try simp only [Act.put, zSb, zS0, zS1])
  refine zTk 4 ?_
  (try simp only [Act.put, zSb, zS0, zS1])
  refine zTk 5 ?_
  (try simp only [Act.put, zSb, zS0, zS1])
  refine zTk 6 ?_
  (try simp only [Act.put, zSb, zS0, zS1])
  refine zTk 7 ?_
  (try simp only [Act.put, zSb, zS0, zS1])
  refine zTk 8 ?_
  (try simp only [Act.put, zSb, zS0, zS1])
  refine zTk 9 ?_
  (try simp only [Act.put, zSb, zS0, zS1])
  refine zTk 10 ?_
  (try simp only [Act.put, zSb, zS0, zS1])
  refine zTk 11 ?_
  (try simp only [Act.put, zSb, zS0, zS1])
  refine zTk 12 ?_
  (try simp only [Act.put, zSb, zS0, zS1])
  refine zTk 13 ?_
  (try simp only [Act.put, zSb, zS0, zS1])
  refine zTk 14 ?_
  (try simp only [Act.put, zSb, zS0, zS1])
  refine zTk 15 ?_
  (try simp only [Act.put, zSb, zS0, zS1])
  refine zTk 16 ?_
  (try simp only [Act.put, zSb, zS0, zS1])
  refine zTk 17 ?_
  (try simp only [Act.put, zSb, zS0, zS1])
  refine zTk 18 ?_
  (try simp only [Act.put, zSb, zS0, zS1])
  refine zTk 19 ?_
  (try simp only [Act.put, zSb, zS0, zS1])
  refine zTk 20 ?_
  (try simp only [Act.put, zSb, zS0, zS1])
  refine zTk 21 ?_
  (try simp only [Act.put, zSb, zS0, zS1])
  refine zTk 22 ?_
  (try simp only [Act.put, zSb, zS0, zS1])
  refine zTk 23 ?_
  (try simp only [Act.put, zSb, zS0, zS1])
  refine zTk 24 ?_
  (try simp only [Act.put, zSb, zS0, zS1])
  refine zTk 25 ?_
  (try simp only [Act.put, zSb, zS0, zS1])
  refine zTk 26 ?_
  (try simp only [Act.put, zSb, zS0, zS1])
  refine zTk 27 ?_
  (try simp only [Act.put, zSb, zS0, zS1])
  refine zTk 28 ?_
  (try simp only [Act.put, zSb, zS0, zS1])
  refine zTk 29 ?_
  (try simp only [Act.put, zSb, zS0, zS1])
  refine zTk 30 ?_
  (try simp only [Act.put, zSb, zS0, zS1])
  refine zTk 31 ?_
  (try simp only [Act.put, zSb, zS0, zS1])
  refine zTk 32 ?_
  (try simp only [Act.put, zSb, zS0, zS1])
  refine wpAnyH_ready (rs := [33]) (by kernel_rfl) (by simp) ?_
  refine (AllReadyH.cons (by rw [List.getElem?_toArray]; rfl) (fun K hK => ?_) AllReadyH.nil)
  go_simp
  refine hK.out _ _ ?_ (fun hHeld => ?_)
  · first | exact SK.out _ B1 | exact SK.out _ XF | exact SK.out _ (B.trans ((Below.drew (Below.refl _ _)).mono B.size))
  clear hK K
  (try simp only [Act.put, zSb, zS0, zS1])
  refine wpAnyH_done (by kernel_rfl) ?_ _
  go_wp2_with (rw [hst])
  have hL0 := RF.load (P := Tryz.prog) hU
  exact bodyPost_ret (v := .agg (ndV x aa ac pa pc ha hc)) (by simp [results, Tryz.results72, go_sem]; rw [hL0]; rfl) rfl ⟨rfl, XF⟩
end Go.Proofs.YtfhappkeipcemaaGreat
