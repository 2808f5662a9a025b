/- The cursor of the draws: what l1Byte, l1Below, l1Once and l1PickInt leave. What the draws of chapter 2 leave: a drift, a count. -/
import Derived.Test.YtddjiamollfplaaGreatDoorRows
import Derived.WalkKit
import Derived.WalkSpells
import Derived.WalkLawsBesides
import Derived.Deep.QuietTactic
import Derived.BigQuiet
namespace Go.Proofs.YtddjiamollfplaaGreatDoor
open Go.RowKit
set_option linter.unusedVariables false
theorem kq (a : Int) (m : Nat) (hm : m < 4611686018427387904) : 0 ≤ bits .and .i64 a (m : Int) ∧ bits .and .i64 a (m : Int) ≤ (m : Int) := by
 have e : bits .and .i64 a (m : Int) = IntKind.i64.wrap ((BitVec.ofInt 64 a &&& BitVec.ofInt 64 (m : Int)).toNat : Int) := rfl
 have h1 : (BitVec.ofInt 64 a &&& BitVec.ofInt 64 (m : Int)).toNat ≤ m := by
  rw [BitVec.toNat_and, BitVec.ofInt_natCast, BitVec.toNat_ofNat, Nat.mod_eq_of_lt (show m < 2 ^ 64 by omega)]
  exact Nat.and_le_right
 rw [e, Go.IntWalk.i64_in _ ⟨by omega, by omega⟩]
 omega
theorem fJ (a : Int) : 0 ≤ bits .and .i64 a 255 ∧ bits .and .i64 a 255 ≤ 255 := kq a 255 (by omega)
theorem kH (x n : Int) (hx : 0 ≤ x) (hn : 0 < n) : x % n ≤ x := by
 have h1 : 0 ≤ x / n := Int.ediv_nonneg hx (by omega)
 have h2 : 0 ≤ n * (x / n) := Int.mul_nonneg (by omega) h1
 have h3 := Int.emod_add_mul_ediv x n
 omega
def But (p : Nat) (w w' : World) : Prop := w'.os = w.os ∧ w'.tape = w.tape ∧ w'.output = w.output ∧ w.heap.size ≤ w'.heap.size ∧ ∀ k, k < w.heap.size → k ≠ p → w'.heap[k]? = w.heap[k]?
theorem But.refl (p : Nat) (w : World) : But p w w := ⟨rfl, rfl, rfl, Nat.le_refl _, fun _ _ _ => rfl⟩
theorem But.trans {p : Nat} {a b c : World} (h : But p a b) (k : But p b c) : But p a c :=
 ⟨k.1.trans h.1, k.2.1.trans h.2.1, k.2.2.1.trans h.2.2.1, Nat.le_trans h.2.2.2.1 k.2.2.2.1, fun i hi hp => (k.2.2.2.2 i (Nat.lt_of_lt_of_le hi h.2.2.2.1) hp).trans (h.2.2.2.2 i hi hp)⟩
theorem But.of_below {p : Nat} {w w' : World} (h : Below w.heap.size w w') : But p w w' := ⟨h.os, h.tape, h.output, h.size, fun k hk _ => h.block k hk⟩
theorem But.drewN {p : Nat} {a w : World} (h : But p a w) (n : Nat) : But p a (w.drewN n) := h
theorem But.setCell {p : Nat} {a w : World} (h : But p a w) (o : Nat) (u : Value) : But p a (w.setCell ⟨p, o, none⟩ u) :=
 ⟨h.1, h.2.1, h.2.2.1, by rw [World.size_setCell]; exact h.2.2.2.1, fun k hk hp => (Below.heap_setCell w ⟨p, o, none⟩ u k hp).trans (h.2.2.2.2 k hk hp)⟩
theorem But.below {p B : Nat} {w w' : World} (h : But p w w') (hB : B ≤ p) (hs : B ≤ w.heap.size) : Below B w w' := ⟨h.1, h.2.1, h.2.2.1, h.2.2.2.1, fun k hk => h.2.2.2.2 k (by omega) (by omega)⟩
theorem But.cell {p k o : Nat} {w w' : World} (h : But p w w') (hk : k < w.heap.size) (hp : k ≠ p) : w'.cell? ⟨k, o, none⟩ = w.cell? ⟨k, o, none⟩ := World.cell?_of_block (w := w) (h.2.2.2.2 k hk hp)
theorem But.frozen {p k o : Nat} {w w' : World} (h : But p w w') (hk : k < w.heap.size) (hp : k ≠ p) : w'.frozen? ⟨k, o, none⟩ = w.frozen? ⟨k, o, none⟩ := World.frozen?_of_block (w := w) (h.2.2.2.2 k hk hp)
def bX (w : World) (B : Nat) (a : Option Addr) (n : Nat) : Prop := n = 0 ∨ ∃ b off, a = some ⟨b, off, none⟩ ∧ b < B ∧ ∀ i, i < n → ∃ z : Int, w.cell? ⟨b, off + i, none⟩ = some (.int .u8 z) ∧ 0 ≤ z ∧ z ≤ 255
theorem bX.below {w w' : World} {B : Nat} {a : Option Addr} {n : Nat} (h : bX w B a n) (hb : Below B w w') : bX w' B a n := by
 rcases h with h | ⟨b, off, h1, h2, h3⟩
 ·exact .inl h
 ·exact .inr ⟨b, off, h1, h2, fun i hi => by
   obtain ⟨z, e, hz⟩ := h3 i hi
   exact ⟨z, by rw [hb.cell (p := ⟨b, off + i, none⟩) h2]; exact e, hz⟩⟩
def cM (w : World) (B p : Nat) (a : Option Addr) (n c i : Nat) (h : Int) : Prop :=
 w.cell? ⟨p, 0, none⟩ = some (.slice a n c) ∧ w.cell? ⟨p, 1, none⟩ = some (.int .i64 i) ∧ w.cell? ⟨p, 2, none⟩ = some (.int .i64 h) ∧
 w.frozen? ⟨p, 0, none⟩ = false ∧ w.frozen? ⟨p, 1, none⟩ = false ∧ w.frozen? ⟨p, 2, none⟩ = false ∧ i ≤ n ∧ n ≤ 1048576 ∧ bX w B a n ∧ B ≤ p ∧ p < w.heap.size
def aq (w : World) (B p : Nat) : Prop := ∃ a n c i h, cM w B p a n c i h
theorem aq.lt {w : World} {B p : Nat} (h : aq w B p) : p < w.heap.size ∧ B ≤ p := by
 obtain ⟨a, n, c, i, hh, h⟩ := h
 exact ⟨h.2.2.2.2.2.2.2.2.2.2, h.2.2.2.2.2.2.2.2.2.1⟩
theorem aq.below {w w' : World} {B p : Nat} (h : aq w B p) (hb : Below w.heap.size w w') : aq w' B p := by
 obtain ⟨a, n, c, i, hh, h0, h1, h2, f0, f1, f2, hi, hn, hc, hB, hp⟩ := h
 refine ⟨a, n, c, i, hh, ?_, ?_, ?_, ?_, ?_, ?_, hi, hn, hc.below (hb.mono (by omega)), hB, Nat.lt_of_lt_of_le hp hb.size⟩
 ·rw [hb.cell (p := ⟨p, 0, none⟩) hp]; exact h0
 ·rw [hb.cell (p := ⟨p, 1, none⟩) hp]; exact h1
 ·rw [hb.cell (p := ⟨p, 2, none⟩) hp]; exact h2
 ·rw [hb.frozen (p := ⟨p, 0, none⟩) hp]; exact f0
 ·rw [hb.frozen (p := ⟨p, 1, none⟩) hp]; exact f1
 ·rw [hb.frozen (p := ⟨p, 2, none⟩) hp]; exact f2
theorem cM.set2 {w : World} {B p : Nat} {a : Option Addr} {n c i : Nat} {h : Int} (hc : cM w B p a n c i h) (k : Int) : cM (w.setCell ⟨p, 2, none⟩ (.int .i64 k)) B p a n c i k := by
 obtain ⟨h0, h1, h2, f0, f1, f2, hi, hn, hcode, hB, hp⟩ := hc
 refine ⟨?_, ?_, ?_, by simpa using f0, by simpa using f1, by simpa using f2, hi, hn, hcode.below ((Below.refl _ _).setCell hB _), hB, by simpa using hp⟩
 ·rw [World.cell?_setCell_other _ _ _ _ (by simp)]; exact h0
 ·rw [World.cell?_setCell_other _ _ _ _ (by simp)]; exact h1
 ·exact World.cell?_setCell_same _ _ _ h2
theorem cM.set1 {w : World} {B p : Nat} {a : Option Addr} {n c i : Nat} {h : Int} (hc : cM w B p a n c i h) (k : Nat) (hk : k ≤ n) : cM (w.setCell ⟨p, 1, none⟩ (.int .i64 k)) B p a n c k h := by
 obtain ⟨h0, h1, h2, f0, f1, f2, hi, hn, hcode, hB, hp⟩ := hc
 refine ⟨?_, ?_, ?_, by simpa using f0, by simpa using f1, by simpa using f2, hk, hn, hcode.below ((Below.refl _ _).setCell hB _), hB, by simpa using hp⟩
 ·rw [World.cell?_setCell_other _ _ _ _ (by simp)]; exact h0
 ·exact World.cell?_setCell_same _ _ _ h1
 ·rw [World.cell?_setCell_other _ _ _ _ (by simp)]; exact h2
theorem cM.drewN {w : World} {B p : Nat} {a : Option Addr} {n c i : Nat} {h : Int} (hc : cM w B p a n c i h) (m : Nat) : cM (w.drewN m) B p a n c i h := hc
set_option maxHeartbeats 1000000 in
theorem bS (B p : Nat) (w : World) (hcur : aq w B p) :
 Calls Tryz.prog 87 #[.pointer (some ⟨p, 0, none⟩)] w fun e w' => ∃ x : Int, e = .returned (.int .i64 x) ∧ 0 ≤ x ∧ x ≤ 255 ∧ aq w' B p ∧ But p w w' := by
 obtain ⟨a, n, c, i, h, hat⟩ := hcur
 have HAT : Hid (cM w B p a n c i h) := hat
 obtain ⟨c0, c1, c2, f0, f1, f2, hi, hn, hcode, hB, hp⟩ := hat
 by_cases hin : i < n
 ·rcases hcode with h0 | ⟨b, off, rfl, hb, hz⟩
  ·omega
  ·obtain ⟨z, hz, z0, z1⟩ := hz i hin
   have hii : (i : Int) < (n : Int) := by omega
   have hbp : b ≠ p := by omega
   go_enter Tryz.func87, Tryz.ntmps87
   go_wp2_with fail
   go_quiet (fail)
   go_wp2_with fail
   go_quiet (fail)
   go_wp2_with fail
   go_quiet (fail)
   go_wp2_with fail
   go_ret
   exact ⟨_, rfl, (fJ _).1, (fJ _).2, ⟨_, _, _, i + 1, _, ((HAT.out.set2 _).drewN _).set1 (i + 1) (by omega)⟩, (((But.refl p w).setCell 2 _).drewN _).setCell 1 _⟩
 ·have hii : ¬ (i : Int) < (n : Int) := by omega
  go_enter Tryz.func87, Tryz.ntmps87
  go_wp2_with fail
  go_quiet (fail)
  go_wp2_with fail
  go_quiet (fail)
  go_wp2_with fail
  go_ret
  exact ⟨_, rfl, (fJ _).1, (fJ _).2, ⟨_, _, _, i, _, ((HAT.out.set2 _).drewN _).drewN _⟩, (((But.refl p w).setCell 2 _).drewN _).drewN _⟩
set_option maxHeartbeats 1000000 in
theorem af (B p : Nat) (n : Int) (w : World) (hcur : aq w B p) :
 Calls Tryz.prog 69 #[.pointer (some ⟨p, 0, none⟩), .int .i64 n] w fun e w' => ∃ x : Int, e = .returned (.int .i64 x) ∧ 0 ≤ x ∧ x ≤ 4294967295 ∧ (0 < n → x < n) ∧ (n ≤ 0 → x = 0) ∧ aq w' B p ∧ But p w w' := by
 by_cases h0 : n ≤ 0
 ·go_enter Tryz.func69, Tryz.ntmps69
  go_wp2_with fail
  go_ret
  exact ⟨0, rfl, by omega, by omega, fun h => by omega, fun _ => rfl, hcur, But.refl p w⟩
 ·have hne : (n == 0) = false := by rw [beq_eq_false_iff_ne]; omega
  have hpos : 0 < n := by omega
  by_cases h1 : n ≤ 256
  ·go_enter Tryz.func69, Tryz.ntmps69
   go_wp2_with fail
   refine (bS B p _ hcur).mono ?_; rintro e w1 ⟨x, rfl, xl, xh, w1c, w1b⟩
   go_wp2_with fail
   go_ret
   have hm := Int.emod_lt_of_pos x hpos
   have hm0 := Int.emod_nonneg x (b := n) (by omega)
   exact ⟨x % n, rfl, hm0, by omega, fun _ => hm, fun h => by omega, w1c, w1b⟩
  ·go_enter Tryz.func69, Tryz.ntmps69
   go_wp2_with fail
   refine (bS B p _ hcur).mono ?_; rintro e w1 ⟨x, rfl, xl, xh, w1c, w1b⟩
   go_wp2_with fail
   refine (bS B p _ w1c).mono ?_; rintro e w2 ⟨y, rfl, yl, yh, w2c, w2b⟩
   go_wp2_with fail
   refine (bS B p _ w2c).mono ?_; rintro e w3 ⟨z, rfl, zl, zh, w3c, w3b⟩
   go_wp2_with fail
   refine (bS B p _ w3c).mono ?_; rintro e w4 ⟨u, rfl, ul, uh, w4c, w4b⟩
   go_wp2_with fail
   go_ret
   have hm := Int.emod_lt_of_pos (x * 16777216 + y * 65536 + z * 256 + u) hpos
   have hm0 := Int.emod_nonneg (x * 16777216 + y * 65536 + z * 256 + u) (b := n) (by omega)
   have hle := kH (x * 16777216 + y * 65536 + z * 256 + u) n (by omega) hpos
   exact ⟨(x * 16777216 + y * 65536 + z * 256 + u) % n, rfl, hm0, by omega, fun _ => hm, fun h => by omega, w4c, ((w1b.trans w2b).trans w3b).trans w4b⟩
set_option maxHeartbeats 400000 in
theorem aB (B p : Nat) (n : Int) (w : World) (hcur : aq w B p) :
 Calls Tryz.prog 43 #[.pointer (some ⟨p, 0, none⟩), .int .i64 n] w fun e w' => ∃ x : Bool, e = .returned (.bool x) ∧ aq w' B p ∧ But p w w' := by
 go_enter Tryz.func43, Tryz.ntmps43
 go_wp2_with fail
 refine (af B p n _ hcur).mono ?_
 rintro e w1 ⟨x, rfl, h0, h1, h2, h3, hc, hb⟩
 clear h2 h3
 go_wp2_with fail
 go_ret
 exact ⟨_, rfl, hc, hb⟩
set_option maxHeartbeats 400000 in
theorem aI (B p b off m c : Nat) (w : World) (hcur : aq w B p) (hm : 0 < m) (hm2 : m ≤ 100) (hb : b < w.heap.size) (hbp : b ≠ p) (hl : ∀ j, j < m → ∃ v : Int, w.cell? ⟨b, off + j, none⟩ = some (.int .i64 v)) :
 Calls Tryz.prog 79 #[.pointer (some ⟨p, 0, none⟩), .slice (some ⟨b, off, none⟩) m c] w fun e w' => ∃ j : Nat, ∃ v : Int, j < m ∧ w.cell? ⟨b, off + j, none⟩ = some (.int .i64 v) ∧ e = .returned (.int .i64 v) ∧ aq w' B p ∧ But p w w' := by
 have HL : Hid (∀ j, j < m → ∃ v : Int, w.cell? ⟨b, off + j, none⟩ = some (.int .i64 v)) := hl
 clear hl
 go_enter Tryz.func79, Tryz.ntmps79
 go_wp2_with fail
 refine (af B p m _ hcur).mono ?_
 rintro e w1 ⟨x, rfl, h0, h1, h2, h3, hc, hw⟩
 have hx := h2 (by omega)
 obtain ⟨j, rfl⟩ := Int.eq_ofNat_of_zero_le h0
 have hj : j < m := by omega
 obtain ⟨v, hv⟩ := HL.out j hj
 have HV : Hid (w.cell? ⟨b, off + j, none⟩ = some (.int .i64 v)) := hv
 have hv1 : w1.cell? ⟨b, off + j, none⟩ = some (.int .i64 v) := by rw [hw.cell hb hbp]; exact hv
 clear h2 h3 hv
 go_wp2_with fail
 go_ret
 exact ⟨j, v, hj, HV.out, rfl, hc, hw⟩
end Go.Proofs.YtddjiamollfplaaGreatDoor
namespace Go.Proofs.YtddjiamollfplaaGreatDoor
open Go.RowKit
set_option linter.unusedVariables false
set_option maxHeartbeats 400000 in
theorem jp (a : Option Addr) (n c : Nat) (w : World) :
 Calls Tryz.prog 5 #[.slice a n c] w fun e w' => e = .returned (.bool (decide (1048576 < (n : Int)))) ∧ w = w' := by
 go_enter Tryz.func5, Tryz.ntmps5
 go_wp2
 go_ret
 exact ⟨rfl, rfl⟩
set_option maxHeartbeats 400000 in
theorem mI (a : Option Addr) (n c i B : Nat) (w : World) (hn : n ≤ 1048576) (hi : i ≤ 1000) (hcode : bX w B a n) :
 Calls Tryz.prog 18 #[.slice a n c, .int .i64 i] w fun e w' => ∃ x : Int, e = .returned (.int .i64 x) ∧ 0 ≤ x ∧ x ≤ 255 ∧ w = w' := by
 by_cases h : i < n
 ·have hd : (i : Int) < (n : Int) := by omega
  rcases hcode with h0 | ⟨b, off, rfl, hb, hz⟩
  ·omega
  ·obtain ⟨z, hz, z0, z1⟩ := hz i h
   go_enter Tryz.func18, Tryz.ntmps18
   go_wp2_with fail
   go_ret
   exact ⟨z, rfl, z0, z1, rfl⟩
 ·have hd : decide ((i : Int) < (n : Int)) = false := by simp; omega
  have hm := Int.emod_lt_of_pos ((i : Int) * 7 + n) (b := 256) (by omega)
  have hm0 := Int.emod_nonneg ((i : Int) * 7 + n) (b := 256) (by omega)
  clear hcode
  go_enter Tryz.func18, Tryz.ntmps18
  go_wp2_with fail
  go_ret
  exact ⟨_, rfl, by omega, by omega, rfl⟩
end Go.Proofs.YtddjiamollfplaaGreatDoor
