/- Contracts of the helpers of chapter 1 (told intervals, least and greatest, meet and join). What the laws keep; rows of numbers, of intervals and of peers, told by lists. Boxes that the laws keep. A struct in memory, told by the array of its cells. A block of three cells of any values. Rows of what was heard: what the laws make of them; an append of one. A node as data, and arrays of cells that read as it. A copy of a table (the specification). What the laws of chapter 16 make of their arguments. -/
import Derived.Test.YtfhappkeipcemaaGreatM0
import Derived.Test.YtfhappkeipcemaaGreatM30
namespace Go.Proofs.YtfhappkeipcemaaGreat
open Go.RowKit
set_option linter.unusedVariables false
def imn (x y : Int) : Int := if y < x then y else x
def imx (x y : Int) : Int := if y < x then x else y
theorem imn_l {x y : Int} (h : y < x) : imn x y = y := by simp [imn, h]
theorem imn_g {x y : Int} (h : ¬ y < x) : imn x y = x := by simp [imn, h]
theorem imx_l {x y : Int} (h : y < x) : imx x y = x := by simp [imx, h]
theorem imx_g {x y : Int} (h : ¬ y < x) : imx x y = y := by simp [imx, h]
set_option maxHeartbeats 400000 in
theorem ranked_any (x y : Int) (w : World) :
    Calls Tryz.prog 231 #[.int .i64 x, .int .i64 y] w fun e w' => e = .returned (.tuple #[.int .i64 (imn x y), .int .i64 (imx x y)]) ∧ w = w' := by
  by_cases h : y < x
  · rw [imn_l h, imx_l h]
    go_enter Tryz.func231, Tryz.ntmps231
    go_wp2
    go_ret2
    exact ⟨rfl, rfl⟩
  · rw [imn_g h, imx_g h]
    go_enter Tryz.func231, Tryz.ntmps231
    go_wp2
    go_ret2
    exact ⟨rfl, rfl⟩
set_option maxHeartbeats 400000 in
theorem l1Max_any (x y : Int) (w : World) :
    Calls Tryz.prog 147 #[.int .i64 x, .int .i64 y] w fun e w' => e = .returned (.int .i64 (imx x y)) ∧ w = w' := by
  go_enter Tryz.func147, Tryz.ntmps147
  go_wp2
  all_goals go_ret
  all_goals exact ⟨ret_int (by first | rw [imx_l (by omega)] | rw [imx_g (by omega)]), rfl⟩
end Go.Proofs.YtfhappkeipcemaaGreat
namespace Go.Proofs.YtfhappkeipcemaaGreat
open Go.RowKit
set_option linter.unusedVariables false
theorem But.grK {w w' : World} {q : Nat} (h : But q w w') : w.grownBy w' (some q) := ⟨h.1, h.2.1, h.2.2.1, h.2.2.2.1, fun k hk hp => h.2.2.2.2 k hk (fun e => hp (by rw [e]))⟩
theorem But.ofGrownK {w w' : World} {q : Nat} (h : w.grownBy w' (some q)) : But q w w' := ⟨h.os, h.tape, h.output, h.size, fun k hk hq => h.block k hk (fun e => hq (by simpa using e))⟩
theorem Cs.kept {w w' : World} {o : Option Nat} {b off N : Nat} {F : Nat → Value} (h : Cs w b off N F) (hg : w.grownBy w' o) (hne : some b ≠ o) : Cs w' b off N F :=
  ⟨Nat.lt_of_lt_of_le h.1 hg.size, fun j hj => by
    have := hg.block b h.1 hne
    have q := h.2 j hj
    simp only [World.cell?] at q ⊢
    rw [this]; exact q⟩
theorem SrcK.kept {w w' : World} {o : Option Nat} {a : Option Addr} {m L : Nat} {F : Nat → Value} (h : SrcK w a m F L) (hg : w.grownBy w' o) (hne : ∀ b, b < L → some b ≠ o) : SrcK w' a m F L := by
  rcases h with h | ⟨b, off, h1, h3, h2⟩
  · exact .inl h
  · exact .inr ⟨b, off, h1, h3, h2.kept hg (hne b h3)⟩
theorem SrcC.keptK {w w' : World} {o : Option Nat} {a : Option Addr} {m : Nat} {F : Nat → Value} (h : SrcC w a m F) (hg : w.grownBy w' o) (hne : ∀ b off, a = some ⟨b, off, none⟩ → some b ≠ o) : SrcC w' a m F := by
  rcases h with h | ⟨b, off, h1, h2⟩
  · exact .inl h
  · exact .inr ⟨b, off, h1, h2.kept hg (hne b off h1)⟩
theorem cell_grown {w w' : World} {o : Option Nat} {b i : Nat} (hg : w.grownBy w' o) (hb : b < w.heap.size) (hne : some b ≠ o) : w'.cell? ⟨b, i, none⟩ = w.cell? ⟨b, i, none⟩ := by
  have := hg.block b hb hne
  simp only [World.cell?]
  rw [this]
theorem bel_grown {w w' : World} (h : Below w.heap.size w w') : w.grownBy w' none := ⟨h.os, h.tape, h.output, h.size, fun k hk _ => h.block k hk⟩
theorem own_neK {w w' : World} {base p : Nat} {e : TypeId} {size : Nat} {v : Value} {n : Nat} {xs : List Value} (h : w.ownsRow base e size v n xs) (hb : But p w w') (hp : ∀ g, v.ownBlock = some g → g ≠ p) : w'.ownsRow base e size v n xs := by
  refine World.ownsRow.kept h hb.grK ?_
  cases hv : v.ownBlock with
  | none => exact .inl rfl
  | some k =>
    right
    intro e
    injection e with e
    exact hp k hv e
theorem own_butK {w w' : World} {base p : Nat} {e : TypeId} {size : Nat} {v : Value} {n : Nat} {xs : List Value} (h : w.ownsRow base e size v n xs) (hb : But p w w') (hp : p < base) : w'.ownsRow base e size v n xs :=
  own_neK h hb fun g hg e => by have := (World.ownsRow.lt h g hg).1; omega
theorem own_belK {w w' : World} {B base : Nat} {e : TypeId} {size : Nat} {v : Value} {n : Nat} {xs : List Value} (h : w.ownsRow base e size v n xs) (hb : Below B w w') (hlt : ∀ g, v.ownBlock = some g → g < B) : w'.ownsRow base e size v n xs := by
  refine ⟨h.1, ?_⟩
  rcases h.2 with h | ⟨g, cap, cur, rfl, h2, h3, h4⟩
  · exact .inl h
  · exact .inr ⟨g, cap, cur, rfl, h2, (hb.block g (hlt g rfl)).trans h3, h4⟩
theorem own_belK' {w w' : World} {base : Nat} {e : TypeId} {size : Nat} {v : Value} {n : Nat} {xs : List Value} (h : w.ownsRow base e size v n xs) (hb : Below w.heap.size w w') : w'.ownsRow base e size v n xs := own_belK h hb fun g hg => (World.ownsRow.lt h g hg).2
theorem mkIval_i {q : Int} {k j : Nat} {x : Int} (h : x = q + ((k * 2 + j : Nat) : Int)) : mkIval q (k * 2 + j) = .int .i64 x := by rw [mkIval, h]
theorem markPeerS_own (a : Option Addr) (n c base : Nat) (q0 : Int) (xs : List Value) (w : World) (hn : n ≤ 1048576) (hq : 0 < q0) (hq1 : q0 ≤ 1073741824) (h : w.ownsRow base 171 5 (.slice a n c) n xs) :
    Calls Tryz.prog 75 #[.slice a n c, .int .i64 q0] w fun e w' => e = .returned (.int .i64 (q0 + (n : Int) * 5)) ∧ SrcC w' a (n * 5) (mkPeer q0) ∧ w.grownBy w' (Value.slice a n c).ownBlock := by
  rcases h.2 with ⟨he, h0⟩ | ⟨g, cap, cur, he, _⟩
  · simp at he
    obtain ⟨rfl, rfl, rfl⟩ := he
    exact (markPeerS_zero none 0 q0 w).mono fun e w' ⟨h1, h2⟩ => ⟨by rw [h1]; simp, .inl (by omega), h2 ▸ bel_grown (Below.refl _ _)⟩
  · simp at he
    obtain ⟨rfl, rfl⟩ := he
    obtain ⟨h1, h2, _, h3⟩ := ownF_row (mkPeer q0) h
    exact (markPeerS_row g (c * 5) n c q0 w hn hq hq1 (Nat.mul_le_mul_right _ h2) h3).mono fun e w' ⟨r1, r2, r3⟩ => ⟨r1, .inr ⟨g, 0, rfl, r2.cs (Nat.mul_le_mul_right _ h2)⟩, r3.grK⟩
end Go.Proofs.YtfhappkeipcemaaGreat
namespace Go.Proofs.YtfhappkeipcemaaGreat
open Go.RowKit
set_option linter.unusedVariables false
theorem Bx2.but {w w' : World} {k q : Nat} {u0 u1 : Value} (h : Bx2 w k u0 u1) (hb : But q w w') (hq : k ≠ q) : Bx2 w' k u0 u1 := by
  obtain ⟨h0, h1, h2, f1, f2⟩ := h
  exact ⟨Nat.lt_of_lt_of_le h0 hb.2.2.2.1, by rw [hb.cell h0 hq]; exact h1, by rw [hb.cell h0 hq]; exact h2, by rw [hb.frozen h0 hq]; exact f1, by rw [hb.frozen h0 hq]; exact f2⟩
theorem Bx2.kept {w w' : World} {q : Option Nat} {k : Nat} {u0 u1 : Value} (h : Bx2 w k u0 u1) (hg : w.grownBy w' q) (hq : some k ≠ q) : Bx2 w' k u0 u1 := by
  obtain ⟨h0, h1, h2, f1, f2⟩ := h
  have cc : ∀ i, w'.cell? ⟨k, i, none⟩ = w.cell? ⟨k, i, none⟩ := fun i => cell_grown hg h0 hq
  have ff : ∀ i, w'.frozen? ⟨k, i, none⟩ = w.frozen? ⟨k, i, none⟩ := fun i => by have := hg.block k h0 hq; simp only [World.frozen?]; rw [this]
  exact ⟨Nat.lt_of_lt_of_le h0 hg.size, by rw [cc]; exact h1, by rw [cc]; exact h2, by rw [ff]; exact f1, by rw [ff]; exact f2⟩
end Go.Proofs.YtfhappkeipcemaaGreat
namespace Go.Proofs.YtfhappkeipcemaaGreat
open Go.RowKit
set_option linter.unusedVariables false
theorem putA_size (k : Nat) : ∀ (us : List Value) (w : World) (o : Nat), (putA w k o us).heap.size = w.heap.size
  | [], _, _ => rfl
  | u :: us, w, o => by rw [putA, putA_size k us]; simp
theorem Bo.kept {w w' : World} {q : Option Nat} {k : Nat} {A : Array Value} (h : Bo w k A) (hg : w.grownBy w' q) (hq : some k ≠ q) : Bo w' k A :=
  ⟨Nat.lt_of_lt_of_le h.1 hg.size, fun i u hi => by rw [cell_grown hg h.1 hq]; exact h.2.1 i u hi, fun i hi => by
    have := hg.block k h.1 hq
    have e : w'.frozen? ⟨k, i, none⟩ = w.frozen? ⟨k, i, none⟩ := by simp only [World.frozen?]; rw [this]
    rw [e]; exact h.2.2 i hi⟩
end Go.Proofs.YtfhappkeipcemaaGreat
namespace Go.Proofs.YtfhappkeipcemaaGreat
open Go.RowKit
set_option linter.unusedVariables false
theorem Tx3.but {w w' : World} {k q : Nat} {u0 u1 u2 : Value} (h : Tx3 w k u0 u1 u2) (hb : But q w w') (hq : k ≠ q) : Tx3 w' k u0 u1 u2 := by
  obtain ⟨h0, h1, h2, h3, f1, f2, f3⟩ := h
  exact ⟨Nat.lt_of_lt_of_le h0 hb.2.2.2.1, by rw [hb.cell h0 hq]; exact h1, by rw [hb.cell h0 hq]; exact h2, by rw [hb.cell h0 hq]; exact h3, by rw [hb.frozen h0 hq]; exact f1, by rw [hb.frozen h0 hq]; exact f2, by rw [hb.frozen h0 hq]; exact f3⟩
theorem Tx3.kept {w w' : World} {q : Option Nat} {k : Nat} {u0 u1 u2 : Value} (h : Tx3 w k u0 u1 u2) (hg : w.grownBy w' q) (hq : some k ≠ q) : Tx3 w' k u0 u1 u2 := by
  obtain ⟨h0, h1, h2, h3, f1, f2, f3⟩ := h
  have cc : ∀ i, w'.cell? ⟨k, i, none⟩ = w.cell? ⟨k, i, none⟩ := fun i => cell_grown hg h0 hq
  have ff : ∀ i, w'.frozen? ⟨k, i, none⟩ = w.frozen? ⟨k, i, none⟩ := fun i => by have := hg.block k h0 hq; simp only [World.frozen?]; rw [this]
  exact ⟨Nat.lt_of_lt_of_le h0 hg.size, by rw [cc]; exact h1, by rw [cc]; exact h2, by rw [cc]; exact h3, by rw [ff]; exact f1, by rw [ff]; exact f2, by rw [ff]; exact f3⟩
end Go.Proofs.YtfhappkeipcemaaGreat
namespace Go.Proofs.YtfhappkeipcemaaGreat
open Go.RowKit
set_option linter.unusedVariables false
set_option maxHeartbeats 8000000 in
theorem markHeardS_row (b N n c : Nat) (q0 : Int) (w : World) (hn : n ≤ 1048576) (hq : 0 < q0) (hq1 : q0 ≤ 1073741824) (hN : n * 2 ≤ N) (h : RowF w b 176 N 0 (mkIval q0)) :
    Calls Tryz.prog 76 #[.slice (some ⟨b, 0, none⟩) n c, .int .i64 q0] w fun e w' => e = .returned (.int .i64 (q0 + (n : Int) * 2)) ∧ RowF w' b 176 N (n * 2) (mkIval q0) ∧ But b w w' := by
  go_enter Tryz.func76, Tryz.ntmps76
  go_wp2_with fail
  go_loopw [1, 5] (fun q i wr => ∃ (k : Nat) (Q : Int), k ≤ n ∧ i = .int .i64 k ∧ q = .int .i64 Q ∧ Q = q0 + (k : Int) * 2 ∧ RowF wr b 176 N (k * 2) (mkIval q0) ∧ But b w wr) (fun _ i _ => n - (intOf i).toNat)
  case atStart => exact ⟨0, q0, Nat.zero_le _, rfl, rfl, by omega, h.eqm (by omega), But.refl _ _⟩
  case round =>
    obtain ⟨k, Q, hk, rfl, rfl, hQ, row, hB⟩ := hrel
    clear h
    have HQ : Hid (Q = q0 + (k : Int) * 2) := hQ
    by_cases hlt : k < n
    · have hli : (k : Int) < (n : Int) := by omega
      have Q0 : 0 < Q := by omega
      have Q1 : Q ≤ 1073741824 + 1048576 * 2 := by omega
      clear hQ
      have hlr := row.lt
      obtain ⟨⟨v0, e0⟩, f0⟩ := row.facts (k * 2) (by omega)
      obtain ⟨⟨v1, e1⟩, f1⟩ := row.facts (k * 2 + 1) (by omega)
      go_wp2_with fail
      go_roundw
      case rel => exact ⟨k + 1, _, by omega, by go_num, rfl, by have := HQ.out; omega, (RowF.put (RowF.put row (k * 2 + 1) (by omega) (mkIval_i (k := k) (j := 0) (by have := HQ.out; omega))) ((k + 1) * 2) (by omega) (mkIval_i (k := k) (j := 1) (by have := HQ.out; omega))), ((hB.setCell _ _).setCell _ _)⟩
      case measure => simp [intOf]; omega
    · have hkn : k = n := by omega
      subst hkn
      have hli : ¬ (k : Int) < (k : Int) := by omega
      subst hQ
      go_wp2_with fail
      go_ret
      exact ⟨rfl, row, hB⟩
set_option maxHeartbeats 400000 in
theorem markHeardS_zero (a : Option Addr) (c : Nat) (q0 : Int) (w : World) :
    Calls Tryz.prog 76 #[.slice a 0 c, .int .i64 q0] w fun e w' => e = .returned (.int .i64 q0) ∧ w = w' := by
  go_enter Tryz.func76, Tryz.ntmps76
  go_wp2_with fail
  go_loopw [1, 5] (fun q i wr => i = .int .i64 0 ∧ q = .int .i64 q0 ∧ w = wr) (fun _ i _ => 0)
  case atStart => exact ⟨rfl, rfl, by first | rfl | trivial⟩
  case round =>
    obtain ⟨rfl, rfl, rfl⟩ := hrel
    go_wp2_with fail
    go_ret
    exact ⟨rfl, rfl⟩
set_option maxRecDepth 100000 in
set_option maxHeartbeats 8000000 in
theorem heldHeardS_some (b off n c : Nat) (q0 : Int) (w : World) (hn : n ≤ 1048576) (hq : 0 < q0) (hq1 : q0 ≤ 1073741824) (h : Cs w b off (n * 2) (mkIval q0)) :
    Calls Tryz.prog 79 #[.slice (some ⟨b, off, none⟩) n c, .int .i64 q0] w fun e w' => e = .returned (.int .i64 (q0 + (n : Int) * 2)) ∧ w = w' := by
  have HP : Hid (Cs w b off (n * 2) (mkIval q0)) := h
  clear h
  go_enter Tryz.func79, Tryz.ntmps79
  go_wp2_with fail
  go_loopw [1, 5] (fun q i wr => ∃ (k : Nat) (Q : Int), k ≤ n ∧ i = .int .i64 k ∧ q = .int .i64 Q ∧ Q = q0 + (k : Int) * 2 ∧ w = wr) (fun _ i _ => n - (intOf i).toNat)
  case atStart => exact ⟨0, q0, Nat.zero_le _, rfl, rfl, by omega, by first | rfl | trivial⟩
  case round =>
    obtain ⟨k, Q, hk, rfl, rfl, hQ, rfl⟩ := hrel
    have HQ : Hid (Q = q0 + (k : Int) * 2) := hQ
    by_cases hlt : k < n
    · have hli : (k : Int) < (n : Int) := by omega
      have Q0 : 0 < Q := by omega
      have Q1 : Q ≤ 1073741824 + 1048576 * 2 := by omega
      have hP := HP.out
      clear hQ
      have c0 : w.cell? ⟨b, off + k * 2, none⟩ = some (.int .i64 (Q)) := by have q := hP.2 (k * 2) (by omega); rw [show mkIval q0 (k * 2) = .int .i64 (Q) from mkIval_i (k := k) (j := 0) (x := Q) (by have := HQ.out; omega)] at q; exact q
      have c1 : w.cell? ⟨b, off + k * 2 + 1, none⟩ = some (.int .i64 (Q + 1)) := by have q := hP.2 (k * 2 + 1) (by omega); rw [show mkIval q0 (k * 2 + 1) = .int .i64 (Q + 1) from mkIval_i (k := k) (j := 1) (x := Q + 1) (by have := HQ.out; omega)] at q; exact q
      have hbl := hP.1
      clear hP
      go_wp2_with fail
      go_roundw
      case rel => exact ⟨k + 1, _, by omega, by go_num, rfl, by have := HQ.out; omega, by first | rfl | trivial⟩
      case measure => simp [intOf]; omega
    · have hkn : k = n := by omega
      subst hkn
      have hli : ¬ (k : Int) < (k : Int) := by omega
      subst hQ
      go_wp2_with fail
      go_ret
      exact ⟨rfl, rfl⟩
set_option maxHeartbeats 400000 in
theorem heldHeardS_zero (a : Option Addr) (c : Nat) (q0 : Int) (w : World) :
    Calls Tryz.prog 79 #[.slice a 0 c, .int .i64 q0] w fun e w' => e = .returned (.int .i64 q0) ∧ w = w' := by
  go_enter Tryz.func79, Tryz.ntmps79
  go_wp2_with fail
  go_loopw [1, 5] (fun q i wr => i = .int .i64 0 ∧ q = .int .i64 q0 ∧ w = wr) (fun _ i _ => 0)
  case atStart => exact ⟨rfl, rfl, by first | rfl | trivial⟩
  case round =>
    obtain ⟨rfl, rfl, rfl⟩ := hrel
    go_wp2_with fail
    go_ret
    exact ⟨rfl, rfl⟩
theorem heldHeardS_any (a : Option Addr) (n c : Nat) (q0 : Int) (w : World) (hn : n ≤ 1048576) (hq : 0 < q0) (hq1 : q0 ≤ 1073741824) (h : SrcC w a (n * 2) (mkIval q0)) :
    Calls Tryz.prog 79 #[.slice a n c, .int .i64 q0] w fun e w' => e = .returned (.int .i64 (q0 + (n : Int) * 2)) ∧ w = w' := by
  rcases h with h0 | ⟨b, off, rfl, hp⟩
  · have hn0 : n = 0 := by omega
    subst hn0
    exact (heldHeardS_zero a c q0 w).mono fun e w' ⟨h1, h2⟩ => ⟨by rw [h1]; simp, h2⟩
  · exact heldHeardS_some b off n c q0 w hn hq hq1 hp
theorem markHeardS_own (a : Option Addr) (n c base : Nat) (q0 : Int) (xs : List Value) (w : World) (hn : n ≤ 1048576) (hq : 0 < q0) (hq1 : q0 ≤ 1073741824) (h : w.ownsRow base 176 2 (.slice a n c) n xs) :
    Calls Tryz.prog 76 #[.slice a n c, .int .i64 q0] w fun e w' => e = .returned (.int .i64 (q0 + (n : Int) * 2)) ∧ SrcC w' a (n * 2) (mkIval q0) ∧ w.grownBy w' (Value.slice a n c).ownBlock := by
  rcases h.2 with ⟨he, h0⟩ | ⟨g, cap, cur, he, _⟩
  · simp at he
    obtain ⟨rfl, rfl, rfl⟩ := he
    exact (markHeardS_zero none 0 q0 w).mono fun e w' ⟨h1, h2⟩ => ⟨by rw [h1]; simp, .inl (by omega), h2 ▸ bel_grown (Below.refl _ _)⟩
  · simp at he
    obtain ⟨rfl, rfl⟩ := he
    obtain ⟨h1, h2, _, h3⟩ := ownF_row (mkIval q0) h
    exact (markHeardS_row g (c * 2) n c q0 w hn hq hq1 (Nat.mul_le_mul_right _ h2) h3).mono fun e w' ⟨r1, r2, r3⟩ => ⟨r1, .inr ⟨g, 0, rfl, r2.cs (Nat.mul_le_mul_right _ h2)⟩, r3.grK⟩
end Go.Proofs.YtfhappkeipcemaaGreat
namespace Go.Proofs.YtfhappkeipcemaaGreat
open Go.RowKit
set_option linter.unusedVariables false
theorem Btw.ofBelow {lo hi : Nat} {w w' : World} (h : Below w.heap.size w w') : Btw lo hi w w' := ⟨h.os, h.tape, h.output, h.size, fun k hk _ => h.block k hk⟩
theorem Btw.ofGrown {lo hi : Nat} {w w' : World} {o : Option Nat} (h : w.grownBy w' o) (ho : ∀ g, o = some g → lo ≤ g ∧ g < hi) : Btw lo hi w w' :=
  ⟨h.os, h.tape, h.output, h.size, fun k hk hx => h.block k hk (fun e => by have := ho k e.symm; omega)⟩
theorem Btw.belowL {lo hi : Nat} {w w' : World} (h : Btw lo hi w w') (hl : lo ≤ w.heap.size) : Below lo w w' := ⟨h.1, h.2.1, h.2.2.1, h.2.2.2.1, fun k hk => h.2.2.2.2 k (by omega) (.inl hk)⟩
theorem Rwo.kept {w w' : World} {lo hi : Nat} {o : Option Nat} {T : TypeId} {sz : Nat} {a : Option Addr} {n c : Nat} {F : Nat → Value} (h : Rwo w lo hi T sz a n c F) (hb : w.grownBy w' o) (ho : ∀ g, (Value.slice a n c).ownBlock = some g → some g ≠ o) : Rwo w' lo hi T sz a n c F :=
  h.same fun g hg => hb.block g (h.lt hg).2.2 (ho g hg)
theorem Rwo.ne {w : World} {lo hi lo' hi' : Nat} {T T' : TypeId} {sz sz' : Nat} {a a' : Option Addr} {n c n' c' : Nat} {F F' : Nat → Value} (h : Rwo w lo hi T sz a n c F) (h' : Rwo w lo' hi' T' sz' a' n' c' F') (hT : T ≠ T') : ∀ g, (Value.slice a n c).ownBlock = some g → some g ≠ (Value.slice a' n' c').ownBlock := by
  intro g hg e
  rcases h.1.2 with ⟨q, _⟩ | ⟨g1, cap, cur, e1, _, h2, _⟩
  · rw [q] at hg; cases hg
  · rcases h'.1.2 with ⟨q, _⟩ | ⟨g2, cap', cur', e2, _, k2, _⟩
    · rw [q] at e; cases e
    · rw [e1] at hg
      rw [e2] at e
      cases hg
      cases e
      rw [h2] at k2
      injection k2 with k2
      injection k2 with _ k2
      exact hT k2
end Go.Proofs.YtfhappkeipcemaaGreat
namespace Go.Proofs.YtfhappkeipcemaaGreat
open Go.RowKit
set_option linter.unusedVariables false
theorem Bx3.but {w w' : World} {j q : Nat} {u0 u1 u2 : Value} (h : Bx3 w j u0 u1 u2) (hb : But q w w') (hq : j ≠ q) : Bx3 w' j u0 u1 u2 := by
  obtain ⟨h0, h1, h2, h3, h4, h5, h6⟩ := h
  exact ⟨Nat.lt_of_lt_of_le h0 hb.2.2.2.1, by rw [hb.cell h0 hq]; exact h1, by rw [hb.cell h0 hq]; exact h2, by rw [hb.cell h0 hq]; exact h3, by rw [hb.frozen h0 hq]; exact h4, by rw [hb.frozen h0 hq]; exact h5, by rw [hb.frozen h0 hq]; exact h6⟩
theorem put3_butK (w : World) (j : Nat) (a0 a1 a2 : Value) : But j w (((w.setCell ⟨j, 0, none⟩ a0).setCell ⟨j, 1, none⟩ a1).setCell ⟨j, 2, none⟩ a2) := (((But.refl j w).setCell 0 a0).setCell 1 a1).setCell 2 a2
def krow (G : Nat → KT) (m : Nat) : List Value := (List.range (m * 4)).map (MFAsk G)
theorem krow_len (G : Nat → KT) (m : Nat) : (krow G m).length = m * 4 := by simp [krow]
theorem krow_one (G : Nat → KT) (m : Nat) : ∀ v ∈ krow G m, v.oneCell' = true := by
  intro v hv
  simp only [krow, List.mem_map] at hv
  obtain ⟨j, _, rfl⟩ := hv
  unfold MFAsk MCAsk
  split <;> rfl
theorem krow_get {G : Nat → KT} {m k : Nat} {v : Value} (h : (krow G m)[k]? = some v) : k < m * 4 ∧ v = MFAsk G k := by
  have hk : k < (krow G m).length := (List.getElem?_eq_some_iff.1 h).1
  rw [krow_len] at hk
  refine ⟨hk, ?_⟩
  simp [krow, hk] at h
  exact h.symm
theorem infoK_parts : ∃ i, Tryz.prog.info? 142 = some i ∧ i.zero = some (.agg #[.int .i64 0, .int .i64 0, .int .i64 0, .int .i64 0]) ∧ i.size = 4 ∧ i.bytes = 32 := by
  obtain ⟨i, hi, hz⟩ := Option.map_eq_some_iff.1 infoAsk
  simp only [Prod.mk.injEq] at hz
  exact ⟨i, hi, hz.1, hz.2.1, hz.2.2⟩
theorem ownK_le {w : World} {base base' : Nat} {e : TypeId} {size : Nat} {v : Value} {n : Nat} {xs : List Value} (h : w.ownsRow base e size v n xs) (hb : base' ≤ base) : w.ownsRow base' e size v n xs := by
  refine ⟨h.1, ?_⟩
  rcases h.2 with h | ⟨g, cap, cur, h1, h2, h3, h4⟩
  · exact .inl h
  · exact .inr ⟨g, cap, cur, h1, Nat.le_trans hb h2, h3, h4⟩
def FromAd (w : World) (ad : Addr) (M : Nat → KT) (n : Nat) : Prop := ∀ j u, (krow M n)[j]? = some u → w.cell? (ad.add j) = some u
theorem Froms.at {w : World} {ad : Addr} {M : Nat → KT} {n : Nat} (h : Froms w ad M n) : FromAd w ad M n := by
  intro j u hu
  obtain ⟨hj, rfl⟩ := krow_get hu
  rcases h with h | ⟨hs, h⟩
  · omega
  · have q := h.2 j hj
    obtain ⟨b, off, s⟩ := ad
    simp only at hs q
    subst hs
    unfold Addr.add
    split
    · next e => subst e; exact q
    · exact q
theorem wp_append_opt {P : Program} {w : World} {o : Oper} {a : Act} {K : Act → World → Prop} {Q : Exit → Act → World → Prop} (s x : Operand) (t : TypeId)
    (ho : o.op = .call { callee := .builtin .append, args := #[s, x], argTypes := #[t, t] })
    (base : Nat) (e : TypeId) (i : TypeInfo) (z : Value) (size bytes : Nat) (ht : P.underlying t = some (.slice e)) (hi : P.info? e = some i) (hz : i.zero = some z)
    (hsize : i.size = size) (hby : i.bytes = bytes) (hzs : z.cells.size = size) (hsz : 0 < size)
    (v : Value) (n : Nat) (xs : List Value) (hs : a.eval s = v) (hown : w.ownsRow base e size v n xs)
    (A : Option Addr) (m c : Nat) (news : List Value) (hx : a.eval x = .slice A m c) (hsrc : (A = none ∧ m = 0 ∧ c = 0) ∨ ∃ ad, A = some ad ∧ ∀ j u, news[j]? = some u → w.cell? (ad.add j) = some u) (hl : news.length = m * size) (h1 : ∀ u ∈ news, u.oneCell' = true)
    (h63 : n + m ≤ maxLen) (hbytes : (n + m) * bytes ≤ 140737488355328) (hbase : base ≤ w.heap.size)
    (h : ∀ v' w', w'.ownsRow base e size v' (n + m) (xs ++ news) → w.grownBy w' v.ownBlock → K (a.put o.dst v') w') : o.wp P a w K Q := by
  rcases hsrc with ⟨rfl, rfl, rfl⟩ | ⟨ad, rfl, hnews⟩
  · have hr := run_append_owned_none (P := P) (w := w) base t o.type e i size ht hi v n xs hown
    have hn0 : news = [] := List.eq_nil_of_length_eq_zero (by rw [hl]; simp)
    subst hn0
    unfold Oper.wp execOp
    simp only [ho, resolve, invoke, builtin, Sem.run_bind, Sem.run_pure, Result.andThen_ok, List.map_toArray, List.map_cons, List.map_nil, hs, hx, hr]
    exact h v w (by rw [List.append_nil]; exact hown) ⟨rfl, rfl, rfl, Nat.le_refl _, fun _ _ _ => rfl⟩
  · exact wp_append_own w s x t ho base e i z size bytes ht hi hz hsize hby hzs hsz v n xs hs hown ad m c news hx hl hnews h1 h63 hbytes hbase (fun v' w' p1 p2 _ => h v' w' p1 p2)
theorem FromsO.at {w : World} {A : Option Addr} {M : Nat → KT} {n c : Nat} (h : FromsO w A M n c) : (A = none ∧ n = 0 ∧ c = 0) ∨ ∃ ad, A = some ad ∧ FromAd w ad M n := by
  rcases h with h | ⟨ad, e, h⟩
  · exact .inl h
  · exact .inr ⟨ad, e, h.at⟩
set_option maxRecDepth 100000 in
set_option maxHeartbeats 4000000 in
theorem l7Copy_opt (ep us : Int) (A : Option Addr) (n c : Nat) (M : Nat → KT) (w : World) (hn : n ≤ 1000) (hf : FromsO w A M n c) :
    Calls Tryz.prog 121 #[.agg #[.int .i64 ep, .int .i64 us, .slice A n c]] w fun e w' => ∃ a' c', e = .returned (.agg #[.int .i64 ep, .int .i64 us, .slice a' n c']) ∧ w'.ownsRow w.heap.size 142 4 (.slice a' n c') n (krow M n) ∧ Below w.heap.size w w' := by
  obtain ⟨i0, hi, hz0, hz1, hz2⟩ := infoK_parts
  have N := (IB3.new w ep us A n c 61).below (Below.nw _ (.cells #[.int .i64 0, .int .i64 0, .slice none 0 0] 61))
  have R := Bx3.new (w.alloc (.cells #[.int .i64 ep, .int .i64 us, .slice A n c] 61)) (.int .i64 0) (.int .i64 0) (.slice none 0 0) 61
  have A1 := Below.nw w (.cells #[.int .i64 ep, .int .i64 us, .slice A n c] 61)
  have B := A1.alloc A1.size (.cells #[.int .i64 0, .int .i64 0, .slice none 0 0] 61)
  have CS := (hf.below A1).below (Below.nw _ (.cells #[.int .i64 0, .int .i64 0, .slice none 0 0] 61))
  simp only [World.size_alloc] at R
  clear hf A1
  go_enter Tryz.func121, Tryz.ntmps121
  go_wp2_with fail
  generalize (w.alloc (.cells #[.int .i64 ep, .int .i64 us, .slice A n c] 61)).alloc (.cells #[.int .i64 0, .int .i64 0, .slice none 0 0] 61) = v at *
  obtain ⟨n0, n1, n2, n3⟩ := id N
  obtain ⟨r0, r1, r2, r3, r4, r5, r6⟩ := id R
  refine wp_region_held_drew (S := (fun w' => w'.cell? ⟨w.heap.size, 0, none⟩ = some (.int .i64 ep) ∧ w'.cell? ⟨w.heap.size, 1, none⟩ = some (.int .i64 us) ∧ w'.cell? ⟨w.heap.size, 2, none⟩ = some (.slice A n c))) (by kernel_rfl) ?_ (fun hHeld => ?_)
  · first | exact ⟨n1, n2, n3⟩ | (simp (maxDischargeDepth := 6) [go_sem, *]; done)
  clear n0 n1 n2 n3 r0 r1 r2 r3 r4 r5 r6
  replace N := N.drew
  replace R := R.drew
  replace B := Below.drew B
  replace CS : FromsO v.drew A M n c := CS
  generalize v.drew = v at *
  (obtain ⟨n0, n1, n2, n3⟩ := id N); (obtain ⟨r0, r1, r2, r3, r4, r5, r6⟩ := id R)
  refine zTk 0 ?_
  (try simp only [Act.put, zSb, zS0, zS1])
  refine zTk 1 ?_
  (try simp only [Act.put, zSb, zS0, zS1])
  refine zTk 2 ?_
  (try simp only [Act.put, zSb, zS0, zS1])
  refine zTk 3 ?_
  (try simp only [Act.put, zSb, zS0, zS1])
  refine zTk 5 ?_
  (try simp only [Act.put, zSb, zS0, zS1])
  refine zTk 6 ?_
  (try simp only [Act.put, zSb, zS0, zS1])
  refine wpAnyH_ready (rs := [4]) (by kernel_rfl) (by simp) ?_
  refine (AllReadyH.cons (by rw [List.getElem?_toArray]; rfl) (fun K hK => ?_) AllReadyH.nil)
  go_simp
  (have hvz : w.heap.size + 2 ≤ v.heap.size := r0); (have O := World.ownsRow_made (base := w.heap.size + 2) (size := 4) (e := 142) v #[] 0 hvz (by simp [maxLen]) (by simp)); (have A := Below.nw v (.cells #[] 142)); clear n0 n1 n2 n3 r0 r1 r2 r3 r4 r5 r6; (replace N := N.below A); (replace R := R.below A); (replace CS := CS.below A); (replace B := B.trans (A.mono B.size)); (have hsz : w.heap.size + 2 ≤ (v.alloc (.cells #[] 142)).heap.size := Nat.le_trans hvz A.size); clear A; (generalize v.alloc (.cells #[] 142) = v2 at *); (obtain ⟨n0, n1, n2, n3⟩ := id N); (obtain ⟨r0, r1, r2, r3, r4, r5, r6⟩ := id R)
  refine hK.out _ _ ?_ (fun hHeld => ?_)
  · first | exact ⟨n1, n2, n3⟩ | (simp (maxDischargeDepth := 6) [go_sem, *]; done)
  clear hK K
  (try simp only [Act.put, zSb, zS0, zS1])
  refine wpAnyH_ready (rs := [7]) (by kernel_rfl) (by simp) ?_
  refine (AllReadyH.cons (by rw [List.getElem?_toArray]; rfl) (fun K hK => ?_) AllReadyH.nil)
  rw [if_pos (by rfl)]; (have HN : Hid ((A = none ∧ n = 0 ∧ c = 0) ∨ ∃ ad, A = some ad ∧ FromAd v2 ad M n) := CS.at); refine wp_append_opt _ _ 59 rfl (w.heap.size + 2) 142 i0 (.agg #[.int .i64 0, .int .i64 0, .int .i64 0, .int .i64 0]) 4 32 Tryz.underlying59 hi hz0 hz1 hz2 rfl (by decide) _ _ _ rfl O A n c (krow M n) rfl HN.out (krow_len M n) (krow_one M n) (by unfold maxLen; omega) (by omega) hsz ?_; intro v' wn hown' hgrow; (have Bg := But.ofGrownK hgrow); clear n0 n1 n2 n3 r0 r1 r2 r3 r4 r5 r6; (replace N := N.but Bg (Nat.ne_of_lt (Nat.lt_of_lt_of_le (by omega) hvz))); (replace R := R.but Bg (Nat.ne_of_lt (Nat.lt_of_lt_of_le (by omega) hvz))); (replace B := B.trans (Bg.below (Nat.le_trans (by omega) hvz) B.size)); rw [Nat.zero_add, List.nil_append] at hown'; (obtain ⟨a', c', rfl, _, _, _⟩ := ownF_src hown'); clear hgrow HN Bg; (obtain ⟨n0, n1, n2, n3⟩ := id N); (obtain ⟨r0, r1, r2, r3, r4, r5, r6⟩ := id R)
  refine hK.out _ _ ?_ (fun hHeld => ?_)
  · first | exact ⟨n1, n2, n3⟩ | (simp (maxDischargeDepth := 6) [go_sem, *]; done)
  clear hK K
  (try simp only [Act.put, zSb, zS0, zS1])
  refine zTk 8 ?_
  (try simp only [Act.put, zSb, zS0, zS1])
  refine wpAnyH_ready (rs := [9]) (by kernel_rfl) (by simp) ?_
  refine (AllReadyH.cons (by rw [List.getElem?_toArray]; rfl) (fun K hK => ?_) AllReadyH.nil)
  go_simp
  refine hK.out _ _ ?_ (fun hHeld => ?_)
  · first | exact ⟨n1, n2, n3⟩ | (simp (maxDischargeDepth := 6) [go_sem, *]; done)
  clear hK K
  (try simp only [Act.put, zSb, zS0, zS1])
  refine wpAnyH_done (by kernel_rfl) ?_ _
  go_wp2_with fail
  have PB := put3_butK wn (w.heap.size + 1) (.int .i64 ep) (.int .i64 us) (.slice a' n c')
  exact bodyPost_ret (v := .agg #[.int .i64 ep, .int .i64 us, .slice a' n c']) (by simp (maxDischargeDepth := 6) [results, Tryz.results121, go_sem, *]) rfl ⟨a', c', rfl, ownK_le (own_butK hown' PB (by omega)) (by omega), B.trans (PB.below (by omega) B.size)⟩
end Go.Proofs.YtfhappkeipcemaaGreat
namespace Go.Proofs.YtfhappkeipcemaaGreat
open Go.RowKit
set_option linter.unusedVariables false
theorem Box8.kept {w w' : World} {q : Option Nat} {j : Nat} {k fr tu no lo hi sl : Int} {s : ByteArray} (h : Box8 w j k fr tu no lo hi sl s) (hg : w.grownBy w' q) (hq : some j ≠ q) : Box8 w' j k fr tu no lo hi sl s := by
  obtain ⟨h0, h1, h2, h3, h4, h5, h6, h7, h8⟩ := h
  have cc : ∀ i, w'.cell? ⟨j, i, none⟩ = w.cell? ⟨j, i, none⟩ := fun i => cell_grown hg h0 hq
  exact ⟨Nat.lt_of_lt_of_le h0 hg.size, by rw [cc]; exact h1, by rw [cc]; exact h2, by rw [cc]; exact h3, by rw [cc]; exact h4, by rw [cc]; exact h5, by rw [cc]; exact h6, by rw [cc]; exact h7, by rw [cc]; exact h8⟩
end Go.Proofs.YtfhappkeipcemaaGreat
