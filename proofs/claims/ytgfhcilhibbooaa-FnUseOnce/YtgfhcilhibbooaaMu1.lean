/- The cursor of the draws: what l1Byte, l1Below, l1Once and l1PickInt leave. Contracts of the functions of chapter 1 (intervals) in the specification and in the program, and the walks of its first exact laws. Number forms: what the bytes of a number are; rows of bytes in memory. Rows of structs in memory; the text of a mark. Contracts of Fold and Unfold, and the walks of their exact laws. Contracts of MsgOk. Flights: contracts of what asks whether one is right; what the laws make of one. NonceOf and NonceParts: contracts, and the walks of their exact laws. Asks and rows of asks: what the laws make of them, and whether two are the same. Tables: what the laws make of them. When a table is right. Asks by their nonces: a map, told by a function of the nonce; what lies in it, ascending. The library's contracts of maps.Keys, slices.Sorted and slices.Sort at this program. The contract of a book its nonces. The contract of impl.TableOk. -/
import Derived.Test.YtgfhcilhibbooaaRows
import Derived.WalkKit
import Derived.WalkSpells
import Derived.WalkLawsBesides
import Derived.Deep.QuietTactic
import Derived.BigQuiet
import Derived.Deep.OwnRows
import Derived.Deep.RegionHeld
import Derived.Laws.BytesArg
import Derived.Deep.RegionHeld3
import Derived.Maps.OwnSet
import Derived.Lib.SlKeysI
import Derived.Shelf.SlIterI.Nil
import Derived.Shelf.SortM.Plain
import Derived.Shelf.SortM.SortNone
import Derived.Test.YtgfhcilhibbooaaProg
import Derived.OwnWalkIn
import Derived.TacticsInMore
import Derived.Deep.DeepCutAuto
import Derived.WalkSmall
namespace Go.Proofs.Ytgfhcilhibbooaa
open Go.RowKit
set_option linter.unusedVariables false
theorem and_mask (a : Int) (m : Nat) (hm : m < 4611686018427387904) : 0 ≤ bits .and .i64 a (m : Int) ∧ bits .and .i64 a (m : Int) ≤ (m : Int) := by
  have e : bits .and .i64 a (m : Int) = IntKind.i64.wrap ((BitVec.ofInt 64 a &&& BitVec.ofInt 64 (m : Int)).toNat : Int) := rfl
  have h1 : (BitVec.ofInt 64 a &&& BitVec.ofInt 64 (m : Int)).toNat ≤ m := by
    rw [BitVec.toNat_and, BitVec.ofInt_natCast, BitVec.toNat_ofNat, Nat.mod_eq_of_lt (show m < 2 ^ 64 by omega)]
    exact Nat.and_le_right
  rw [e, Go.IntWalk.i64_in _ ⟨by omega, by omega⟩]
  omega
theorem and255 (a : Int) : 0 ≤ bits .and .i64 a 255 ∧ bits .and .i64 a 255 ≤ 255 := and_mask a 255 (by omega)
theorem emod_le' (x n : Int) (hx : 0 ≤ x) (hn : 0 < n) : x % n ≤ x := by
  have h1 : 0 ≤ x / n := Int.ediv_nonneg hx (by omega)
  have h2 : 0 ≤ n * (x / n) := Int.mul_nonneg (by omega) h1
  have h3 := Int.emod_add_mul_ediv x n
  omega
def But (p : Nat) (w w' : World) : Prop := w'.os = w.os ∧ w'.tape = w.tape ∧ w'.output = w.output ∧ w.heap.size ≤ w'.heap.size ∧ ∀ k, k < w.heap.size → k ≠ p → w'.heap[k]? = w.heap[k]?
theorem But.refl (p : Nat) (w : World) : But p w w := ⟨rfl, rfl, rfl, Nat.le_refl _, fun _ _ _ => rfl⟩
theorem But.trans {p : Nat} {a b c : World} (h : But p a b) (k : But p b c) : But p a c :=
  ⟨k.1.trans h.1, k.2.1.trans h.2.1, k.2.2.1.trans h.2.2.1, Nat.le_trans h.2.2.2.1 k.2.2.2.1, fun i hi hp => (k.2.2.2.2 i (Nat.lt_of_lt_of_le hi h.2.2.2.1) hp).trans (h.2.2.2.2 i hi hp)⟩
theorem But.of_below {p : Nat} {w w' : World} (h : Below w.heap.size w w') : But p w w' := ⟨h.os, h.tape, h.output, h.size, fun k hk _ => h.block k hk⟩
theorem But.drewN {p : Nat} {a w : World} (h : But p a w) (n : Nat) : But p a (w.drewN n) := h
theorem But.setCell {p : Nat} {a w : World} (h : But p a w) (o : Nat) (u : Value) : But p a (w.setCell ⟨p, o, none⟩ u) :=
  ⟨h.1, h.2.1, h.2.2.1, by rw [World.size_setCell]; exact h.2.2.2.1, fun k hk hp => (Below.heap_setCell w ⟨p, o, none⟩ u k hp).trans (h.2.2.2.2 k hk hp)⟩
theorem But.below {p B : Nat} {w w' : World} (h : But p w w') (hB : B ≤ p) (hs : B ≤ w.heap.size) : Below B w w' := ⟨h.1, h.2.1, h.2.2.1, h.2.2.2.1, fun k hk => h.2.2.2.2 k (by omega) (by omega)⟩
theorem But.cell {p k o : Nat} {w w' : World} (h : But p w w') (hk : k < w.heap.size) (hp : k ≠ p) : w'.cell? ⟨k, o, none⟩ = w.cell? ⟨k, o, none⟩ := World.cell?_of_block (w := w) (h.2.2.2.2 k hk hp)
theorem But.frozen {p k o : Nat} {w w' : World} (h : But p w w') (hk : k < w.heap.size) (hp : k ≠ p) : w'.frozen? ⟨k, o, none⟩ = w.frozen? ⟨k, o, none⟩ := World.frozen?_of_block (w := w) (h.2.2.2.2 k hk hp)
def CodeB (w : World) (B : Nat) (a : Option Addr) (n : Nat) : Prop := n = 0 ∨ ∃ b off, a = some ⟨b, off, none⟩ ∧ b < B ∧ ∀ i, i < n → ∃ z : Int, w.cell? ⟨b, off + i, none⟩ = some (.int .u8 z) ∧ 0 ≤ z ∧ z ≤ 255
theorem CodeB.below {w w' : World} {B : Nat} {a : Option Addr} {n : Nat} (h : CodeB w B a n) (hb : Below B w w') : CodeB w' B a n := by
  rcases h with h | ⟨b, off, h1, h2, h3⟩
  · exact .inl h
  · exact .inr ⟨b, off, h1, h2, fun i hi => by
      obtain ⟨z, e, hz⟩ := h3 i hi
      exact ⟨z, by rw [hb.cell (p := ⟨b, off + i, none⟩) h2]; exact e, hz⟩⟩
/- A cursor over the bytes of a draw: where it lies, and that it is one. -/
def CurAt (w : World) (B p : Nat) (a : Option Addr) (n c i : Nat) (h : Int) : Prop :=
  w.cell? ⟨p, 0, none⟩ = some (.slice a n c) ∧ w.cell? ⟨p, 1, none⟩ = some (.int .i64 i) ∧ w.cell? ⟨p, 2, none⟩ = some (.int .i64 h) ∧
  w.frozen? ⟨p, 0, none⟩ = false ∧ w.frozen? ⟨p, 1, none⟩ = false ∧ w.frozen? ⟨p, 2, none⟩ = false ∧ i ≤ n ∧ n ≤ 1048576 ∧ CodeB w B a n ∧ B ≤ p ∧ p < w.heap.size
def CurOk (w : World) (B p : Nat) : Prop := ∃ a n c i h, CurAt w B p a n c i h
theorem CurOk.lt {w : World} {B p : Nat} (h : CurOk w B p) : p < w.heap.size ∧ B ≤ p := by
  obtain ⟨a, n, c, i, hh, h⟩ := h
  exact ⟨h.2.2.2.2.2.2.2.2.2.2, h.2.2.2.2.2.2.2.2.2.1⟩
theorem CurOk.below {w w' : World} {B p : Nat} (h : CurOk w B p) (hb : Below w.heap.size w w') : CurOk w' B p := by
  obtain ⟨a, n, c, i, hh, h0, h1, h2, f0, f1, f2, hi, hn, hc, hB, hp⟩ := h
  refine ⟨a, n, c, i, hh, ?_, ?_, ?_, ?_, ?_, ?_, hi, hn, hc.below (hb.mono (by omega)), hB, Nat.lt_of_lt_of_le hp hb.size⟩
  · rw [hb.cell (p := ⟨p, 0, none⟩) hp]; exact h0
  · rw [hb.cell (p := ⟨p, 1, none⟩) hp]; exact h1
  · rw [hb.cell (p := ⟨p, 2, none⟩) hp]; exact h2
  · rw [hb.frozen (p := ⟨p, 0, none⟩) hp]; exact f0
  · rw [hb.frozen (p := ⟨p, 1, none⟩) hp]; exact f1
  · rw [hb.frozen (p := ⟨p, 2, none⟩) hp]; exact f2
theorem CurAt.set2 {w : World} {B p : Nat} {a : Option Addr} {n c i : Nat} {h : Int} (hc : CurAt w B p a n c i h) (k : Int) : CurAt (w.setCell ⟨p, 2, none⟩ (.int .i64 k)) B p a n c i k := by
  obtain ⟨h0, h1, h2, f0, f1, f2, hi, hn, hcode, hB, hp⟩ := hc
  refine ⟨?_, ?_, ?_, by simpa using f0, by simpa using f1, by simpa using f2, hi, hn, hcode.below ((Below.refl _ _).setCell hB _), hB, by simpa using hp⟩
  · rw [World.cell?_setCell_other _ _ _ _ (by simp)]; exact h0
  · rw [World.cell?_setCell_other _ _ _ _ (by simp)]; exact h1
  · exact World.cell?_setCell_same _ _ _ h2
theorem CurAt.set1 {w : World} {B p : Nat} {a : Option Addr} {n c i : Nat} {h : Int} (hc : CurAt w B p a n c i h) (k : Nat) (hk : k ≤ n) : CurAt (w.setCell ⟨p, 1, none⟩ (.int .i64 k)) B p a n c k h := by
  obtain ⟨h0, h1, h2, f0, f1, f2, hi, hn, hcode, hB, hp⟩ := hc
  refine ⟨?_, ?_, ?_, by simpa using f0, by simpa using f1, by simpa using f2, hk, hn, hcode.below ((Below.refl _ _).setCell hB _), hB, by simpa using hp⟩
  · rw [World.cell?_setCell_other _ _ _ _ (by simp)]; exact h0
  · exact World.cell?_setCell_same _ _ _ h1
  · rw [World.cell?_setCell_other _ _ _ _ (by simp)]; exact h2
theorem CurAt.drewN {w : World} {B p : Nat} {a : Option Addr} {n c i : Nat} {h : Int} (hc : CurAt w B p a n c i h) (m : Nat) : CurAt (w.drewN m) B p a n c i h := hc
set_option maxHeartbeats 1000000 in
theorem l1Byte_any (B p : Nat) (w : World) (hcur : CurOk w B p) :
    Calls Try.prog 49 #[.pointer (some ⟨p, 0, none⟩)] w fun e w' => ∃ x : Int, e = .returned (.int .i64 x) ∧ 0 ≤ x ∧ x ≤ 255 ∧ CurOk w' B p ∧ But p w w' := by
  obtain ⟨a, n, c, i, h, hat⟩ := hcur
  have HAT : Hid (CurAt w B p a n c i h) := hat
  obtain ⟨c0, c1, c2, f0, f1, f2, hi, hn, hcode, hB, hp⟩ := hat
  by_cases hin : i < n
  · rcases hcode with h0 | ⟨b, off, rfl, hb, hz⟩
    · omega
    · obtain ⟨z, hz, z0, z1⟩ := hz i hin
      have hii : (i : Int) < (n : Int) := by omega
      have hbp : b ≠ p := by omega
      go_enter Try.func49, Try.ntmps49
      go_wp2_with fail
      go_quiet (fail)
      go_wp2_with fail
      go_quiet (fail)
      go_wp2_with fail
      go_quiet (fail)
      go_wp2_with fail
      go_ret
      exact ⟨_, rfl, (and255 _).1, (and255 _).2, ⟨_, _, _, i + 1, _, ((HAT.out.set2 _).drewN _).set1 (i + 1) (by omega)⟩, (((But.refl p w).setCell 2 _).drewN _).setCell 1 _⟩
  · have hii : ¬ (i : Int) < (n : Int) := by omega
    go_enter Try.func49, Try.ntmps49
    go_wp2_with fail
    go_quiet (fail)
    go_wp2_with fail
    go_quiet (fail)
    go_wp2_with fail
    go_ret
    exact ⟨_, rfl, (and255 _).1, (and255 _).2, ⟨_, _, _, i, _, ((HAT.out.set2 _).drewN _).drewN _⟩, (((But.refl p w).setCell 2 _).drewN _).drewN _⟩
set_option maxHeartbeats 1000000 in
theorem l1Below_any (B p : Nat) (n : Int) (w : World) (hcur : CurOk w B p) :
    Calls Try.prog 34 #[.pointer (some ⟨p, 0, none⟩), .int .i64 n] w fun e w' => ∃ x : Int, e = .returned (.int .i64 x) ∧ 0 ≤ x ∧ x ≤ 4294967295 ∧ (0 < n → x < n) ∧ (n ≤ 0 → x = 0) ∧ CurOk w' B p ∧ But p w w' := by
  by_cases h0 : n ≤ 0
  · go_enter Try.func34, Try.ntmps34
    go_wp2_with fail
    go_ret
    exact ⟨0, rfl, by omega, by omega, fun h => by omega, fun _ => rfl, hcur, But.refl p w⟩
  · have hne : (n == 0) = false := by rw [beq_eq_false_iff_ne]; omega
    have hpos : 0 < n := by omega
    by_cases h1 : n ≤ 256
    · go_enter Try.func34, Try.ntmps34
      go_wp2_with fail
      refine (l1Byte_any B p _ hcur).mono ?_; rintro e w1 ⟨x, rfl, xl, xh, w1c, w1b⟩
      go_wp2_with fail
      go_ret
      have hm := Int.emod_lt_of_pos x hpos
      have hm0 := Int.emod_nonneg x (b := n) (by omega)
      exact ⟨x % n, rfl, hm0, by omega, fun _ => hm, fun h => by omega, w1c, w1b⟩
    · go_enter Try.func34, Try.ntmps34
      go_wp2_with fail
      refine (l1Byte_any B p _ hcur).mono ?_; rintro e w1 ⟨x, rfl, xl, xh, w1c, w1b⟩
      go_wp2_with fail
      refine (l1Byte_any B p _ w1c).mono ?_; rintro e w2 ⟨y, rfl, yl, yh, w2c, w2b⟩
      go_wp2_with fail
      refine (l1Byte_any B p _ w2c).mono ?_; rintro e w3 ⟨z, rfl, zl, zh, w3c, w3b⟩
      go_wp2_with fail
      refine (l1Byte_any B p _ w3c).mono ?_; rintro e w4 ⟨u, rfl, ul, uh, w4c, w4b⟩
      go_wp2_with fail
      go_ret
      have hm := Int.emod_lt_of_pos (x * 16777216 + y * 65536 + z * 256 + u) hpos
      have hm0 := Int.emod_nonneg (x * 16777216 + y * 65536 + z * 256 + u) (b := n) (by omega)
      have hle := emod_le' (x * 16777216 + y * 65536 + z * 256 + u) n (by omega) hpos
      exact ⟨(x * 16777216 + y * 65536 + z * 256 + u) % n, rfl, hm0, by omega, fun _ => hm, fun h => by omega, w4c, ((w1b.trans w2b).trans w3b).trans w4b⟩
set_option maxHeartbeats 400000 in
theorem l1Once_any (B p : Nat) (n : Int) (w : World) (hcur : CurOk w B p) :
    Calls Try.prog 35 #[.pointer (some ⟨p, 0, none⟩), .int .i64 n] w fun e w' => ∃ x : Bool, e = .returned (.bool x) ∧ CurOk w' B p ∧ But p w w' := by
  go_enter Try.func35, Try.ntmps35
  go_wp2_with fail
  refine (l1Below_any B p n _ hcur).mono ?_
  rintro e w1 ⟨x, rfl, h0, h1, h2, h3, hc, hb⟩
  clear h2 h3
  go_wp2_with fail
  go_ret
  exact ⟨_, rfl, hc, hb⟩
set_option maxHeartbeats 400000 in
theorem l1PickInt_any (B p b off m c : Nat) (w : World) (hcur : CurOk w B p) (hm : 0 < m) (hm2 : m ≤ 100) (hb : b < w.heap.size) (hbp : b ≠ p) (hl : ∀ j, j < m → ∃ v : Int, w.cell? ⟨b, off + j, none⟩ = some (.int .i64 v)) :
    Calls Try.prog 48 #[.pointer (some ⟨p, 0, none⟩), .slice (some ⟨b, off, none⟩) m c] w fun e w' => ∃ j : Nat, ∃ v : Int, j < m ∧ w.cell? ⟨b, off + j, none⟩ = some (.int .i64 v) ∧ e = .returned (.int .i64 v) ∧ CurOk w' B p ∧ But p w w' := by
  have HL : Hid (∀ j, j < m → ∃ v : Int, w.cell? ⟨b, off + j, none⟩ = some (.int .i64 v)) := hl
  clear hl
  go_enter Try.func48, Try.ntmps48
  go_wp2_with fail
  refine (l1Below_any B p m _ hcur).mono ?_
  rintro e w1 ⟨x, rfl, h0, h1, h2, h3, hc, hw⟩
  have hx := h2 (by omega)
  obtain ⟨j, rfl⟩ := Int.eq_ofNat_of_zero_le h0
  have hj : j < m := by omega
  obtain ⟨v, hv⟩ := HL.out j hj
  have HV : Hid (w.cell? ⟨b, off + j, none⟩ = some (.int .i64 v)) := hv
  have hv1 : w1.cell? ⟨b, off + j, none⟩ = some (.int .i64 v) := by rw [hw.cell hb hbp]; exact hv
  clear h2 h3 hv
  go_wp2_with fail
  go_ret
  exact ⟨j, v, hj, HV.out, rfl, hc, hw⟩
end Go.Proofs.Ytgfhcilhibbooaa
namespace Go.Proofs.Ytgfhcilhibbooaa
open Go.RowKit
set_option linter.unusedVariables false
theorem ret_int {k : IntKind} {a b : Int} (h : a = b) : Ending.returned (.int k a) = .returned (.int k b) := by rw [h]
theorem ret_bool {a b : Bool} (h : a = b) : Ending.returned (.bool a) = .returned (.bool b) := by rw [h]
theorem bcell {W w1 : World} (hb : Below W.heap.size W w1) : (∀ b o, b < W.heap.size → w1.cell? ⟨b, o, none⟩ = W.cell? ⟨b, o, none⟩) ∧ (∀ b o, b < W.heap.size → w1.frozen? ⟨b, o, none⟩ = W.frozen? ⟨b, o, none⟩) :=
  ⟨fun b o h => hb.cell (p := ⟨b, o, none⟩) h, fun b o h => hb.frozen (p := ⟨b, o, none⟩) h⟩
def okI (lo hi : Int) : Bool := decide (lo ≤ hi ∧ -1000000000000 ≤ lo ∧ hi ≤ 1000000000000)
theorem okI_t {lo hi : Int} (h : okI lo hi = true) : lo ≤ hi ∧ -1000000000000 ≤ lo ∧ hi ≤ 1000000000000 := of_decide_eq_true h
theorem okI_f {lo hi : Int} (h : okI lo hi = false) : ¬ (lo ≤ hi ∧ -1000000000000 ≤ lo ∧ hi ≤ 1000000000000) := of_decide_eq_false h
def wideI (lo hi : Int) : Int := if okI lo hi then hi - lo else -1
theorem wideI_t {lo hi : Int} (h : okI lo hi = true) : wideI lo hi = hi - lo := by simp [wideI, h]
theorem wideI_f {lo hi : Int} (h : okI lo hi = false) : wideI lo hi = -1 := by simp [wideI, h]
def holdsI (lo hi t : Int) : Bool := okI lo hi && decide (lo ≤ t ∧ t ≤ hi)
theorem holdsI_f {lo hi t : Int} (h : okI lo hi = false) : holdsI lo hi t = false := by simp [holdsI, h]
end Go.Proofs.Ytgfhcilhibbooaa
namespace Go.Proofs.Ytgfhcilhibbooaa
open Go.RowKit
set_option linter.unusedVariables false
theorem or_i64 (a b : Nat) (ha : a < 9223372036854775808) (hb : b < 9223372036854775808) : bits .or .i64 (a : Int) (b : Int) = ((a ||| b : Nat) : Int) := by
  have e : bits .or .i64 (a : Int) (b : Int) = IntKind.i64.wrap ((BitVec.ofInt 64 (a : Int) ||| BitVec.ofInt 64 (b : Int)).toNat : Int) := rfl
  have h1 : (BitVec.ofInt 64 (a : Int) ||| BitVec.ofInt 64 (b : Int)).toNat = a ||| b := by
    rw [BitVec.toNat_or, BitVec.ofInt_natCast, BitVec.ofInt_natCast, BitVec.toNat_ofNat, BitVec.toNat_ofNat, Nat.mod_eq_of_lt (show a < 2 ^ 64 by omega), Nat.mod_eq_of_lt (show b < 2 ^ 64 by omega)]
  have h2 : a ||| b < 2 ^ 63 := Nat.or_lt_two_pow (by omega) (by omega)
  rw [e, h1, Go.IntWalk.i64_in _ ⟨by omega, by omega⟩]
theorem and127 (a : Nat) (ha : a < 9223372036854775808) : bits .and .i64 (a : Int) 127 = ((a % 128 : Nat) : Int) := by
  have e : bits .and .i64 (a : Int) 127 = IntKind.i64.wrap ((BitVec.ofInt 64 (a : Int) &&& BitVec.ofInt 64 127).toNat : Int) := rfl
  have h1 : (BitVec.ofInt 64 (a : Int) &&& BitVec.ofInt 64 127).toNat = a % 128 := by
    rw [BitVec.toNat_and, BitVec.ofInt_natCast, BitVec.toNat_ofNat, Nat.mod_eq_of_lt (show a < 2 ^ 64 by omega)]
    exact Nat.and_two_pow_sub_one_eq_mod a 7
  rw [e, h1, Go.IntWalk.i64_in _ ⟨by omega, by omega⟩]
theorem and127I (a : Int) (h0 : 0 ≤ a) (h1 : a ≤ 9223372036854775807) : bits .and .i64 a 127 = a % 128 := by
  obtain ⟨n, rfl⟩ := Int.eq_ofNat_of_zero_le h0
  rw [and127 n (by omega)]; omega
theorem or_join (a z k : Nat) (ha : a < 2 ^ k) (h : z * 2 ^ k + a < 9223372036854775808) : bits .or .i64 (a : Int) ((z * 2 ^ k : Nat) : Int) = ((a + z * 2 ^ k : Nat) : Int) := by
  rw [or_i64 a (z * 2 ^ k) (by omega) (by omega), Nat.or_comm, Nat.mul_comm z, ← Nat.two_pow_add_eq_or_of_lt ha, Nat.add_comm]
theorem or128 (a : Int) (h0 : 0 ≤ a) (h1 : a ≤ 127) : bits .or .i64 a 128 = a + 128 := by
  obtain ⟨n, rfl⟩ := Int.eq_ofNat_of_zero_le h0
  have := or_join n 1 7 (by omega) (by omega)
  simpa using this
theorem mask127 {c : Int} (h₀ : 0 ≤ c) (h₁ : c ≤ 255) : bits .and .u8 c 127 = c % 128 := bits_mask .u8 8 (by decide) wraps_u8 7 (by decide) c h₀ (by omega)
def putN : Nat → Int → List Int
  | 0, _ => []
  | k + 1, x => if 127 < x then (x % 128 + 128) :: putN k (x / 128) else [x]
def putL (x : Int) : List Int := if x < 0 then [] else putN 10 x
theorem putN_go {k : Nat} {x : Int} (h : 127 < x) : putN (k + 1) x = (x % 128 + 128) :: putN k (x / 128) := by rw [putN, if_pos h]
theorem putN_end {k : Nat} {x : Int} (h : ¬ 127 < x) : putN (k + 1) x = [x] := by rw [putN, if_neg h]
theorem putN_len : ∀ (k : Nat) (x : Int), (putN k x).length ≤ k
  | 0, _ => by simp [putN]
  | k + 1, x => by
    unfold putN
    split
    · have := putN_len k (x / 128); simp; omega
    · simp
theorem putN_rng : ∀ (k : Nat) (x : Int), 0 ≤ x → ∀ z ∈ putN k x, 0 ≤ z ∧ z ≤ 255
  | 0, _, _, z, hz => by simp [putN] at hz
  | k + 1, x, hx, z, hz => by
    unfold putN at hz
    split at hz
    · simp at hz
      rcases hz with rfl | hz
      · omega
      · exact putN_rng k (x / 128) (by omega) z hz
    · simp at hz; subst hz; omega
theorem putL_len (x : Int) : (putL x).length ≤ 10 := by unfold putL; split; simp; exact putN_len _ _
theorem putL_rng (x : Int) : ∀ z ∈ putL x, 0 ≤ z ∧ z ≤ 255 := by
  unfold putL
  split
  · intro z hz; simp at hz
  · exact putN_rng 10 x (by omega)
theorem div_pow {y : Int} {m : Nat} (h : y < 128 ^ (m + 1)) : y / 128 < 128 ^ m := by
  rw [Int.pow_succ] at h
  exact Int.ediv_lt_of_lt_mul (by omega) h
theorem infoByte : (Try.prog.info? 5).map (fun i => (i.zero, i.size, i.bytes)) = some (some (.int .u8 0), 1, 1) := by kernel_rfl
def bts (L : List Int) : List Value := L.map (Value.int .u8)
theorem bts_add (L : List Int) (z : Int) : bts (L ++ [z]) = bts L ++ [.int .u8 z] := by simp [bts]
theorem bts_len (L : List Int) : (bts L).length = L.length := by simp [bts]
theorem byte_at (w : World) (z : Int) (T : TypeId) (j : Nat) (u : Value) (h : [Value.int .u8 z][j]? = some u) : (w.alloc (.cells #[.int .u8 z] T)).cell? ((⟨w.heap.size, 0, none⟩ : Addr).add j) = some u := by
  match j, h with
  | 0, h => simp at h; subst h; simp [Addr.add]
def Byts (w : World) (b off n : Nat) (f : Nat → Int) : Prop := b < w.heap.size ∧ ∀ i, i < n → w.cell? ⟨b, off + i, none⟩ = some (.int .u8 (f i))
theorem Byts.below {w w' : World} {B b off n : Nat} {f : Nat → Int} (h : Byts w b off n f) (hb : Below B w w') (hB : b < B) : Byts w' b off n f :=
  ⟨Nat.lt_of_lt_of_le h.1 hb.size, fun i hi => by rw [hb.cell (p := ⟨b, off + i, none⟩) hB]; exact h.2 i hi⟩
def SrcB (w : World) (a : Option Addr) (n : Nat) (f : Nat → Int) : Prop := n = 0 ∨ ∃ b off, a = some ⟨b, off, none⟩ ∧ Byts w b off n f
theorem SrcB.below {w w' : World} {a : Option Addr} {n : Nat} {f : Nat → Int} (h : SrcB w a n f) (hb : Below w.heap.size w w') : SrcB w' a n f := by
  rcases h with h | ⟨b, off, h1, h2⟩
  · exact .inl h
  · exact .inr ⟨b, off, h1, h2.below hb h2.1⟩
theorem ownB_below {w w' : World} {base : Nat} {e : TypeId} {size : Nat} {v : Value} {n : Nat} {xs : List Value} (h : w.ownsRow base e size v n xs) (hb : Below w.heap.size w w') : w'.ownsRow base e size v n xs :=
  h.kept (row := none) ⟨hb.os, hb.tape, hb.output, hb.size, fun k hk _ => hb.block k hk⟩ (by
    cases hv : v.ownBlock with
    | none => exact .inl rfl
    | some g => exact .inr (by simp))
theorem grownB_below {w w' : World} {base : Nat} {e : TypeId} {size : Nat} {v : Value} {n : Nat} {xs : List Value} (h : w.ownsRow base e size v n xs) (hg : w.grownBy w' v.ownBlock) (hb : base ≤ w.heap.size) : Below base w w' :=
  ⟨hg.os, hg.tape, hg.output, hg.size, fun k hk => hg.block k (by omega) (fun he => by have := (h.lt k he.symm).1; omega)⟩
theorem ownB_src {w : World} {base : Nat} {T : TypeId} {v : Value} {L : List Int} (h : w.ownsRow base T 1 v L.length (bts L)) :
    ∃ a c, v = .slice a L.length c ∧ L.length ≤ c ∧ c ≤ maxLen ∧ SrcB w a L.length (fun i => L.getD i 0) := by
  rcases h.2 with ⟨rfl, h0⟩ | ⟨g, cap, cur, rfl, hb, hg, hc, hm, hs, ht⟩
  · exact ⟨none, 0, by rw [h0], by omega, by simp [maxLen], .inl h0⟩
  · refine ⟨_, cap, rfl, hc, hm, .inr ⟨g, 0, rfl, (Array.getElem?_eq_some_iff.1 hg).1, fun i hi => ?_⟩⟩
    have hu : (bts L)[i]? = some (.int .u8 (L.getD i 0)) := by simp [bts, hi]
    rw [← ht, List.getElem?_take, if_pos (by omega)] at hu
    simp [World.cell?, hg]
    simpa using hu
end Go.Proofs.Ytgfhcilhibbooaa
namespace Go.Proofs.Ytgfhcilhibbooaa
open Go.RowKit
set_option linter.unusedVariables false
theorem Below.nw (w : World) (o : Obj) : Below w.heap.size w (w.alloc o) := (Below.refl _ _).alloc (Nat.le_refl _) _
/- Cells in memory one behind the other, told by a function of the index. -/
def Cs (w : World) (b off N : Nat) (F : Nat → Value) : Prop := b < w.heap.size ∧ ∀ j, j < N → w.cell? ⟨b, off + j, none⟩ = some (F j)
theorem Cs.below {w w' : World} {B b off N : Nat} {F : Nat → Value} (h : Cs w b off N F) (hb : Below B w w') (hB : b < B) : Cs w' b off N F :=
  ⟨Nat.lt_of_lt_of_le h.1 hb.size, fun j hj => by rw [hb.cell (p := ⟨b, off + j, none⟩) hB]; exact h.2 j hj⟩
theorem Cs.drew {w : World} {b off N : Nat} {F : Nat → Value} (h : Cs w b off N F) : Cs w.drew b off N F := h
theorem Cs.but {w w' : World} {p b off N : Nat} {F : Nat → Value} (h : Cs w b off N F) (hb : But p w w') (hp : b ≠ p) : Cs w' b off N F :=
  ⟨Nat.lt_of_lt_of_le h.1 hb.2.2.2.1, fun j hj => by rw [hb.cell h.1 hp]; exact h.2 j hj⟩
def SrcC (w : World) (a : Option Addr) (N : Nat) (F : Nat → Value) : Prop := N = 0 ∨ ∃ b off, a = some ⟨b, off, none⟩ ∧ Cs w b off N F
theorem SrcC.below {w w' : World} {a : Option Addr} {N : Nat} {F : Nat → Value} (h : SrcC w a N F) (hb : Below w.heap.size w w') : SrcC w' a N F := by
  rcases h with h | ⟨b, off, h1, h2⟩
  · exact .inl h
  · exact .inr ⟨b, off, h1, h2.below hb h2.1⟩
/- A row of N cells in a block, the first m of which are F's. -/
def RowF (w : World) (b : Nat) (T : TypeId) (N m : Nat) (F : Nat → Value) : Prop := ∃ g, w.rowIs b T N g ∧ ∀ j, j < m → g j = F j
theorem RowF.lt {w : World} {b N m : Nat} {T : TypeId} {F : Nat → Value} (h : RowF w b T N m F) : b < w.heap.size := by obtain ⟨g, hr, _⟩ := h; exact hr.lt
theorem RowF.below {w w' : World} {B b N m : Nat} {T : TypeId} {F : Nat → Value} (hb : Below B w w') (hB : b < B) (h : RowF w b T N m F) : RowF w' b T N m F := by
  obtain ⟨g, hr, hg⟩ := h
  exact ⟨g, hr.of_block (hb.block b hB), hg⟩
theorem RowF.below' {w w' : World} {b N m : Nat} {T : TypeId} {F : Nat → Value} (hb : Below w.heap.size w w') (h : RowF w b T N m F) : RowF w' b T N m F := RowF.below hb h.lt h
theorem RowF.zero {w : World} {b N m : Nat} {T : TypeId} {F : Nat → Value} (h : RowF w b T N m F) (G : Nat → Value) : RowF w b T N 0 G := by
  obtain ⟨g, hr, hg⟩ := h
  exact ⟨g, hr, fun j hj => absurd hj (Nat.not_lt_zero _)⟩
theorem RowF.facts {w : World} {b N m : Nat} {T : TypeId} {F : Nat → Value} (h : RowF w b T N m F) (j : Nat) (hj : j < N) : (∃ v, w.cell? ⟨b, j, none⟩ = some v) ∧ w.frozen? ⟨b, j, none⟩ = false := by
  obtain ⟨g, hr, hg⟩ := h
  exact ⟨⟨_, hr.cell hj⟩, hr.frozen _⟩
theorem RowF.put {w : World} {b N m : Nat} {T : TypeId} {F : Nat → Value} (h : RowF w b T N m F) (m' : Nat) (hm : m' = m + 1) {v : Value} (hv : F m = v) : RowF (w.setCell ⟨b, m, none⟩ v) b T N m' F := by
  obtain ⟨g, hr, hg⟩ := h
  refine ⟨_, hr.set _ _, fun j hj => ?_⟩
  by_cases e : j = m
  · subst e; simp only [if_true]; exact hv.symm
  · simp only [if_neg e]; exact hg j (by omega)
theorem RowF.setO {w : World} {b N m : Nat} {T : TypeId} {F : Nat → Value} (h : RowF w b T N m F) {k : Nat} (hk : k ≠ b) (o : Nat) (u : Value) : RowF (w.setCell ⟨k, o, none⟩ u) b T N m F := by
  obtain ⟨g, hr, hg⟩ := h
  exact ⟨g, hr.setOther (fun e => hk e.symm) u, hg⟩
theorem RowF.cs {w : World} {b N m : Nat} {T : TypeId} {F : Nat → Value} (h : RowF w b T N m F) (hm : m ≤ N) : Cs w b 0 m F := by
  obtain ⟨g, hr, hg⟩ := h
  exact ⟨hr.lt, fun j hj => by rw [Nat.zero_add, hr.cell (by omega), hg j hj]⟩
theorem RowF.eqm {w : World} {b N m m' : Nat} {T : TypeId} {F : Nat → Value} (h : RowF w b T N m F) (e : m = m') : RowF w b T N m' F := e ▸ h
theorem ownF_row {w : World} {base : Nat} {T : TypeId} {s g n cap : Nat} {xs : List Value} (F : Nat → Value) (h : w.ownsRow base T s (.slice (some ⟨g, 0, none⟩) n cap) n xs) : base ≤ g ∧ n ≤ cap ∧ cap ≤ maxLen ∧ RowF w g T (cap * s) 0 F := by
  rcases h.2 with ⟨h, _⟩ | ⟨g', cap', cur, he, h2, h3, h4, h5, h6, h7⟩
  · simp at h
  · simp at he
    obtain ⟨rfl, rfl⟩ := he
    exact ⟨h2, h4, h5, _, ⟨cur, h3, by omega, fun i hi => by rw [Array.getElem?_eq_getElem (by omega)]; exact congrArg some (by rw [Array.getD_eq_getD_getElem?, Array.getElem?_eq_getElem (by omega)]; rfl : cur[i]'(by omega) = cur.getD i undef)⟩, fun j hj => absurd hj (Nat.not_lt_zero _)⟩
theorem ownF_src {w : World} {base : Nat} {T : TypeId} {s n : Nat} {v : Value} {F : Nat → Value} (h : w.ownsRow base T s v n ((List.range (n * s)).map F)) :
    ∃ a c, v = .slice a n c ∧ n ≤ c ∧ c ≤ maxLen ∧ SrcC w a (n * s) F := by
  rcases h.2 with ⟨rfl, h0⟩ | ⟨g, cap, cur, rfl, hb, hg, hc, hm, hs, ht⟩
  · exact ⟨none, 0, by rw [h0], by omega, by simp [maxLen], .inl (by rw [h0, Nat.zero_mul])⟩
  · refine ⟨_, cap, rfl, hc, hm, .inr ⟨g, 0, rfl, (Array.getElem?_eq_some_iff.1 hg).1, fun i hi => ?_⟩⟩
    have hu : ((List.range (n * s)).map F)[i]? = some (F i) := by simp [hi]
    rw [← ht, List.getElem?_take, if_pos (by omega)] at hu
    simp [World.cell?, hg]
    simpa using hu
theorem mapF_add (F : Nat → Value) (n s : Nat) : (List.range ((n + 1) * s)).map F = (List.range (n * s)).map F ++ (List.range s).map fun j => F (n * s + j) := by
  rw [Nat.succ_mul, List.range_add, List.map_append, List.map_map]
  rfl
def digS (K : Nat) (s : ByteArray) : ByteArray := if h : K = 0 then s else digS (K / 10) (strOfNums [48 + (K : Int) % 10] ++ s)
termination_by K
decreasing_by omega
def txt (k : Int) : ByteArray := strOfNums [109] ++ digS k.toNat ⟨#[]⟩
theorem digS_go {K : Nat} {s : ByteArray} (h : K ≠ 0) : digS K s = digS (K / 10) (strOfNums [48 + (K : Int) % 10] ++ s) := by rw [digS, dif_neg h]
theorem digS_end {s : ByteArray} : digS 0 s = s := by rw [digS, dif_pos rfl]
end Go.Proofs.Ytgfhcilhibbooaa
namespace Go.Proofs.Ytgfhcilhibbooaa
open Go.RowKit
set_option linter.unusedVariables false
set_option maxHeartbeats 400000 in
theorem l1In_any (x l h : Int) (w : World) :
    Calls Try.prog 44 #[.int .i64 x, .int .i64 l, .int .i64 h] w fun e w' => e = .returned (.bool (decide (l ≤ x ∧ x ≤ h))) ∧ w = w' := by
  go_enter Try.func44, Try.ntmps44
  go_wp2
  all_goals go_ret
  all_goals exact ⟨ret_bool (by rw [Bool.eq_iff_iff]; simp; try omega), rfl⟩
def foldI (x : Int) : Int := if -1000000000000 ≤ x ∧ x ≤ 1000000000000 then (if x < 0 then -2 * x - 1 else 2 * x) else 0
def unfJ (x : Int) : Int := if x % 2 = 1 then -(x / 2) - 1 else x / 2
def unfI (x : Int) : Int := if 0 ≤ x ∧ x ≤ 2000000000000 then unfJ x else 0
end Go.Proofs.Ytgfhcilhibbooaa
namespace Go.Proofs.Ytgfhcilhibbooaa
open Go.RowKit
set_option linter.unusedVariables false
def nodB (n : Int) : Bool := decide (0 ≤ n ∧ n ≤ 7)
def adB (fr tuu no : Int) : Bool := nodB fr && nodB tuu && (fr != tuu) && decide (0 ≤ no ∧ no ≤ 100000999)
set_option maxHeartbeats 400000 in
theorem isNode_any (n : Int) (w : World) :
    Calls Try.prog 58 #[.int .i64 n] w fun e w' => e = .returned (.bool (nodB n)) ∧ w = w' := by
  go_enter Try.func58, Try.ntmps58
  go_wp2
  all_goals go_ret
  all_goals exact ⟨ret_bool (by rw [Bool.eq_iff_iff]; simp [nodB]; try omega), rfl⟩
set_option maxHeartbeats 400000 in
theorem l4Node_any (n : Int) (w : World) :
    Calls Try.prog 51 #[.int .i64 n] w fun e w' => e = .returned (.bool (nodB n)) ∧ w = w' := by
  go_enter Try.func51, Try.ntmps51
  go_wp2_with (first | (go_at_call 44; refine (l1In_any _ _ _ _).mono ?_; rintro e w' ⟨rfl, rfl⟩))
  go_ret
  exact ⟨ret_bool (by simp [nodB]), rfl⟩
def Box8 (w : World) (j : Nat) (k fr tuu no lo hi sl : Int) (s : ByteArray) : Prop := j < w.heap.size ∧ w.cell? ⟨j, 0, none⟩ = some (.int .i64 k) ∧ w.cell? ⟨j, 1, none⟩ = some (.int .i64 fr) ∧ w.cell? ⟨j, 2, none⟩ = some (.int .i64 tuu) ∧ w.cell? ⟨j, 3, none⟩ = some (.int .i64 no) ∧ w.cell? ⟨j, 4, none⟩ = some (.int .i64 lo) ∧ w.cell? ⟨j, 5, none⟩ = some (.int .i64 hi) ∧ w.cell? ⟨j, 6, none⟩ = some (.int .i64 sl) ∧ w.cell? ⟨j, 7, none⟩ = some (.string s)
theorem Box8.belowB {j B : Nat} {w w' : World} {k fr tuu no lo hi sl : Int} {s : ByteArray} (h : Box8 w j k fr tuu no lo hi sl s) (hw : Below B w w') (hk : j < B) : Box8 w' j k fr tuu no lo hi sl s := by
  obtain ⟨h0, h1, h2, h3, h4, h5, h6, h7, h8⟩ := h
  exact ⟨Nat.lt_of_lt_of_le h0 hw.size, by rw [hw.cell (p := ⟨j, 0, none⟩) hk]; exact h1, by rw [hw.cell (p := ⟨j, 1, none⟩) hk]; exact h2, by rw [hw.cell (p := ⟨j, 2, none⟩) hk]; exact h3, by rw [hw.cell (p := ⟨j, 3, none⟩) hk]; exact h4, by rw [hw.cell (p := ⟨j, 4, none⟩) hk]; exact h5, by rw [hw.cell (p := ⟨j, 5, none⟩) hk]; exact h6, by rw [hw.cell (p := ⟨j, 6, none⟩) hk]; exact h7, by rw [hw.cell (p := ⟨j, 7, none⟩) hk]; exact h8⟩
theorem Box8.below {j : Nat} {w w' : World} {k fr tuu no lo hi sl : Int} {s : ByteArray} (h : Box8 w j k fr tuu no lo hi sl s) (hw : Below w.heap.size w w') : Box8 w' j k fr tuu no lo hi sl s := h.belowB hw h.1
theorem Box8.new (w : World) (k fr tuu no lo hi sl : Int) (s : ByteArray) (T : TypeId) : Box8 (w.alloc (.cells #[.int .i64 k, .int .i64 fr, .int .i64 tuu, .int .i64 no, .int .i64 lo, .int .i64 hi, .int .i64 sl, .string s] T)) w.heap.size k fr tuu no lo hi sl s := ⟨by simp, by simp, by simp, by simp, by simp, by simp, by simp, by simp, by simp⟩
def emp (s : ByteArray) : Bool := decide (s.toList = [])
def msgB (k fr tuu no lo hi sl : Int) (s : ByteArray) : Bool :=
  if k = 1 then adB fr tuu no && (lo == 0) && (hi == 0) && (sl == 0) && emp s
  else if k = 2 then adB fr tuu no && okI lo hi && (sl == 0) && emp s
  else if k = 3 then nodB fr && decide (0 ≤ sl ∧ sl ≤ 15) && decide (s.size ≤ 24) && (tuu == 0) && (no == 0) && (lo == 0) && (hi == 0)
  else false
end Go.Proofs.Ytgfhcilhibbooaa
namespace Go.Proofs.Ytgfhcilhibbooaa
open Go.RowKit
set_option linter.unusedVariables false
def FT : Type := Int × Int × Int × ByteArray × Int
def zF : FT := (0, 0, 0, ⟨#[]⟩, 0)
def fT (x0 x1 x2 : Int) (x3 : ByteArray) (x4 : Int) : FT := (x0, x1, x2, x3, x4)
def tmB (t : Int) : Bool := decide (0 ≤ t ∧ t ≤ 1000000000000)
def flB (x1 x2 : Int) (x3 : ByteArray) (x4 : Int) : Bool := nodB x1 && nodB x2 && decide (x3.size ≤ 64) && tmB x4
def flT (M : FT) : Bool := flB M.2.1 M.2.2.1 M.2.2.2.1 M.2.2.2.2
set_option maxHeartbeats 400000 in
theorem isTime_any (n : Int) (w : World) :
    Calls Try.prog 59 #[.int .i64 n] w fun e w' => e = .returned (.bool (tmB n)) ∧ w = w' := by
  go_enter Try.func59, Try.ntmps59
  go_wp2
  all_goals go_ret
  all_goals exact ⟨ret_bool (by rw [Bool.eq_iff_iff]; simp [tmB]; try omega), rfl⟩
set_option maxHeartbeats 400000 in
theorem l2Time_any (n : Int) (w : World) :
    Calls Try.prog 52 #[.int .i64 n] w fun e w' => e = .returned (.bool (tmB n)) ∧ w = w' := by
  go_enter Try.func52, Try.ntmps52
  go_wp2_with (first | (go_at_call 44; refine (l1In_any _ _ _ _).mono ?_; rintro e w' ⟨rfl, rfl⟩))
  go_ret
  exact ⟨ret_bool (by simp [tmB]), rfl⟩
def Box5 (w : World) (j : Nat) (x0 x1 x2 : Int) (x3 : ByteArray) (x4 : Int) : Prop := j < w.heap.size ∧ w.cell? ⟨j, 0, none⟩ = some (.int .i64 x0) ∧ w.cell? ⟨j, 1, none⟩ = some (.int .i64 x1) ∧ w.cell? ⟨j, 2, none⟩ = some (.int .i64 x2) ∧ w.cell? ⟨j, 3, none⟩ = some (.string x3) ∧ w.cell? ⟨j, 4, none⟩ = some (.int .i64 x4)
theorem Box5.belowB {j B : Nat} {w w' : World} {x0 x1 x2 : Int} {x3 : ByteArray} {x4 : Int} (h : Box5 w j x0 x1 x2 x3 x4) (hw : Below B w w') (hk : j < B) : Box5 w' j x0 x1 x2 x3 x4 := by
  obtain ⟨h0, h1, h2, h3, h4, h5⟩ := h
  exact ⟨Nat.lt_of_lt_of_le h0 hw.size, by rw [hw.cell (p := ⟨j, 0, none⟩) hk]; exact h1, by rw [hw.cell (p := ⟨j, 1, none⟩) hk]; exact h2, by rw [hw.cell (p := ⟨j, 2, none⟩) hk]; exact h3, by rw [hw.cell (p := ⟨j, 3, none⟩) hk]; exact h4, by rw [hw.cell (p := ⟨j, 4, none⟩) hk]; exact h5⟩
theorem Box5.below {j : Nat} {w w' : World} {x0 x1 x2 : Int} {x3 : ByteArray} {x4 : Int} (h : Box5 w j x0 x1 x2 x3 x4) (hw : Below w.heap.size w w') : Box5 w' j x0 x1 x2 x3 x4 := h.belowB hw h.1
theorem Box5.new (w : World) (x0 x1 x2 : Int) (x3 : ByteArray) (x4 : Int) (T : TypeId) : Box5 (w.alloc (.cells #[.int .i64 x0, .int .i64 x1, .int .i64 x2, .string x3, .int .i64 x4] T)) w.heap.size x0 x1 x2 x3 x4 := ⟨by simp, by simp, by simp, by simp, by simp, by simp⟩
set_option maxHeartbeats 4000000 in
theorem l5Flight_any (x0 x1 x2 : Int) (x3 : ByteArray) (x4 : Int) (w : World) (hs : x3.size ≤ maxLen) :
    Calls Try.prog 45 #[.agg #[.int .i64 x0, .int .i64 x1, .int .i64 x2, .string x3, .int .i64 x4]] w fun e w' => e = .returned (.bool (flB x1 x2 x3 x4)) ∧ Below w.heap.size w w' := by
  unfold maxLen at hs
  have B0 := Below.nw w (.cells #[.int .i64 x0, .int .i64 x1, .int .i64 x2, .string x3, .int .i64 x4] 30)
  cases h1 : nodB x1
  · go_enter Try.func45, Try.ntmps45
    go_wp2_with fail
    refine (l4Node_any _ _).mono ?_
    rintro e w' ⟨rfl, rfl⟩
    rw [h1]
    go_wp2_with fail
    go_ret
    exact ⟨ret_bool (by simp [flB, h1]), B0⟩
  · cases h2 : nodB x2
    · go_enter Try.func45, Try.ntmps45
      go_wp2_with fail
      refine (l4Node_any _ _).mono ?_
      rintro e w' ⟨rfl, rfl⟩
      rw [h1]
      go_wp2_with fail
      refine (l4Node_any _ _).mono ?_
      rintro e w' ⟨rfl, rfl⟩
      rw [h2]
      go_wp2_with fail
      go_ret
      exact ⟨ret_bool (by simp [flB, h2]), B0⟩
    · by_cases h3 : (x3.size : Int) ≤ 64
      · have h3n : x3.size ≤ 64 := by omega
        go_enter Try.func45, Try.ntmps45
        go_wp2_with fail
        refine (l4Node_any _ _).mono ?_
        rintro e w' ⟨rfl, rfl⟩
        rw [h1]
        go_wp2_with fail
        refine (l4Node_any _ _).mono ?_
        rintro e w' ⟨rfl, rfl⟩
        rw [h2]
        go_wp2_with fail
        refine (l2Time_any _ _).mono ?_
        rintro e w' ⟨rfl, rfl⟩
        go_wp2_with fail
        go_ret
        exact ⟨ret_bool (by simp [flB, h1, h2, h3n]), B0⟩
      · have h3n : ¬ x3.size ≤ 64 := by omega
        have HN : Hid (flB x1 x2 x3 x4 = false) := by simp [Hid, flB, h3n]
        go_enter Try.func45, Try.ntmps45
        go_wp2_with fail
        refine (l4Node_any _ _).mono ?_
        rintro e w' ⟨rfl, rfl⟩
        rw [h1]
        go_wp2_with fail
        refine (l4Node_any _ _).mono ?_
        rintro e w' ⟨rfl, rfl⟩
        rw [h2]
        go_wp2_with fail
        go_ret
        exact ⟨ret_bool HN.out.symm, B0⟩
set_option maxHeartbeats 4000000 in
theorem flightOk_any (x0 x1 x2 : Int) (x3 : ByteArray) (x4 : Int) (w : World) (hs : x3.size ≤ maxLen) :
    Calls Try.prog 46 #[.agg #[.int .i64 x0, .int .i64 x1, .int .i64 x2, .string x3, .int .i64 x4]] w fun e w' => e = .returned (.bool (flB x1 x2 x3 x4)) ∧ Below w.heap.size w w' := by
  unfold maxLen at hs
  have B0 := Below.nw w (.cells #[.int .i64 x0, .int .i64 x1, .int .i64 x2, .string x3, .int .i64 x4] 30)
  cases h1 : nodB x1
  · go_enter Try.func46, Try.ntmps46
    go_wp2_with fail
    refine (isNode_any _ _).mono ?_
    rintro e w' ⟨rfl, rfl⟩
    rw [h1]
    go_wp2_with fail
    go_ret
    exact ⟨ret_bool (by simp [flB, h1]), B0⟩
  · cases h2 : nodB x2
    · go_enter Try.func46, Try.ntmps46
      go_wp2_with fail
      refine (isNode_any _ _).mono ?_
      rintro e w' ⟨rfl, rfl⟩
      rw [h1]
      go_wp2_with fail
      refine (isNode_any _ _).mono ?_
      rintro e w' ⟨rfl, rfl⟩
      rw [h2]
      go_wp2_with fail
      go_ret
      exact ⟨ret_bool (by simp [flB, h2]), B0⟩
    · by_cases h3 : (x3.size : Int) ≤ 64
      · have h3n : x3.size ≤ 64 := by omega
        go_enter Try.func46, Try.ntmps46
        go_wp2_with fail
        refine (isNode_any _ _).mono ?_
        rintro e w' ⟨rfl, rfl⟩
        rw [h1]
        go_wp2_with fail
        refine (isNode_any _ _).mono ?_
        rintro e w' ⟨rfl, rfl⟩
        rw [h2]
        go_wp2_with fail
        refine (isTime_any _ _).mono ?_
        rintro e w' ⟨rfl, rfl⟩
        go_wp2_with fail
        go_ret
        exact ⟨ret_bool (by simp [flB, h1, h2, h3n]), B0⟩
      · have h3n : ¬ x3.size ≤ 64 := by omega
        have HN : Hid (flB x1 x2 x3 x4 = false) := by simp [Hid, flB, h3n]
        go_enter Try.func46, Try.ntmps46
        go_wp2_with fail
        refine (isNode_any _ _).mono ?_
        rintro e w' ⟨rfl, rfl⟩
        rw [h1]
        go_wp2_with fail
        refine (isNode_any _ _).mono ?_
        rintro e w' ⟨rfl, rfl⟩
        rw [h2]
        go_wp2_with fail
        go_ret
        exact ⟨ret_bool HN.out.symm, B0⟩
end Go.Proofs.Ytgfhcilhibbooaa
namespace Go.Proofs.Ytgfhcilhibbooaa
open Go.RowKit
set_option linter.unusedVariables false
def epB (e : Int) : Bool := decide (0 ≤ e ∧ e ≤ 100000)
def kB (k : Int) : Bool := decide (0 ≤ k ∧ k ≤ 999)
def nnB (e k : Int) : Bool := epB e && kB k
def nnI (e k : Int) : Int := bif nnB e k then e * 1000 + k else 0
def npB (n : Int) : Bool := decide (0 ≤ n ∧ n ≤ 100000999)
def npE (n : Int) : Int := bif npB n then Int.tdiv n 1000 else 0
def npK (n : Int) : Int := bif npB n then Int.tmod n 1000 else 0
theorem np_nn (n : Int) : nnB (Int.tdiv n 1000) (Int.tmod n 1000) = npB n := by
  rw [Bool.eq_iff_iff]
  simp only [nnB, epB, kB, npB, Bool.and_eq_true, decide_eq_true_eq]
  rcases Int.le_total 0 n with h | h
  · rw [Int.tdiv_eq_ediv_of_nonneg h, Int.tmod_eq_emod_of_nonneg h]; omega
  · obtain ⟨m, rfl⟩ : ∃ m : Int, n = -m := ⟨-n, by omega⟩
    rw [Int.neg_tdiv, Int.neg_tmod, Int.tdiv_eq_ediv_of_nonneg (by omega), Int.tmod_eq_emod_of_nonneg (by omega)]; omega
set_option maxHeartbeats 400000 in
theorem isEpoch_any (n : Int) (w : World) :
    Calls Try.prog 54 #[.int .i64 n] w fun e w' => e = .returned (.bool (epB n)) ∧ w = w' := by
  go_enter Try.func54, Try.ntmps54
  go_wp2
  all_goals go_ret
  all_goals exact ⟨ret_bool (by rw [Bool.eq_iff_iff]; simp [epB]; try omega), rfl⟩
set_option maxHeartbeats 1000000 in
theorem implNonceOf_any (a k : Int) (w : World) :
    Calls Try.prog 63 #[.int .i64 a, .int .i64 k] w fun e w' => e = .returned (.tuple #[.int .i64 (nnI a k), .bool (nnB a k)]) ∧ w = w' := by
  cases h1 : epB a
  · have HB : nnB a k = false := by rw [nnB, h1]; rfl
    have HI : nnI a k = 0 := by rw [nnI, HB]; rfl
    rw [HB, HI]
    go_enter Try.func63, Try.ntmps63
    go_wp2_with fail
    refine (isEpoch_any _ _).mono ?_
    rintro e w' ⟨rfl, rfl⟩
    rw [h1]
    go_wp2_with fail
    go_ret2
    exact ⟨rfl, rfl⟩
  · by_cases h3 : k < 0
    · have h2 : kB k = false := by simp [kB]; omega
      have HB : nnB a k = false := by rw [nnB, h2, Bool.and_false]
      have HI : nnI a k = 0 := by rw [nnI, HB]; rfl
      rw [HB, HI]
      go_enter Try.func63, Try.ntmps63
      go_wp2_with fail
      refine (isEpoch_any _ _).mono ?_
      rintro e w' ⟨rfl, rfl⟩
      rw [h1]
      go_wp2_with fail
      go_ret2
      exact ⟨rfl, rfl⟩
    · by_cases h4 : 1000 ≤ k
      · have h2 : kB k = false := by simp [kB]; omega
        have HB : nnB a k = false := by rw [nnB, h2, Bool.and_false]
        have HI : nnI a k = 0 := by rw [nnI, HB]; rfl
        rw [HB, HI]
        go_enter Try.func63, Try.ntmps63
        go_wp2_with fail
        refine (isEpoch_any _ _).mono ?_
        rintro e w' ⟨rfl, rfl⟩
        rw [h1]
        go_wp2_with fail
        go_ret2
        exact ⟨rfl, rfl⟩
      · have h2 : kB k = true := by simp [kB]; omega
        have HB : nnB a k = true := by rw [nnB, h1, h2]; rfl
        have HI : nnI a k = a * 1000 + k := by rw [nnI, HB]; rfl
        rw [HB, HI]
        have g1 : 0 ≤ a ∧ a ≤ 100000 := of_decide_eq_true h1
        have q1 : IntKind.i64.wrap (a * 1000) = a * 1000 := Go.IntWalk.i64_in _ ⟨by omega, by omega⟩
        have q2 : IntKind.i64.wrap (a * 1000 + k) = a * 1000 + k := Go.IntWalk.i64_in _ ⟨by omega, by omega⟩
        clear g1
        go_enter Try.func63, Try.ntmps63
        go_wp2_with fail
        refine (isEpoch_any _ _).mono ?_
        rintro e w' ⟨rfl, rfl⟩
        rw [h1]
        go_wp2_with fail
        go_ret2
        exact ⟨rfl, rfl⟩
set_option maxHeartbeats 1000000 in
theorem specNonceParts_any (n : Int) (w : World) :
    Calls Try.prog 50 #[.int .i64 n] w fun e w' => e = .returned (.tuple #[.int .i64 (npE n), .int .i64 (npK n), .bool (npB n)]) ∧ w = w' := by
  cases h1 : npB n
  · have HE : npE n = 0 := by rw [npE, h1]; rfl
    have HK : npK n = 0 := by rw [npK, h1]; rfl
    rw [HE, HK]
    unfold npB at h1
    go_enter Try.func50, Try.ntmps50
    go_wp2_with fail
    refine (l1In_any _ _ _ _).mono ?_
    rintro e w' ⟨rfl, rfl⟩
    rw [h1]
    go_wp2_with fail
    go_ret3
    exact ⟨rfl, rfl⟩
  · have HE : npE n = Int.tdiv n 1000 := by rw [npE, h1]; rfl
    have HK : npK n = Int.tmod n 1000 := by rw [npK, h1]; rfl
    rw [HE, HK]
    unfold npB at h1
    have g := of_decide_eq_true h1
    have q1 : IntKind.i64.wrap (Int.tdiv n 1000) = Int.tdiv n 1000 := by rw [Int.tdiv_eq_ediv_of_nonneg g.1]; exact Go.IntWalk.i64_in _ ⟨by omega, by omega⟩
    have q2 : IntKind.i64.wrap (Int.tmod n 1000) = Int.tmod n 1000 := by rw [Int.tmod_eq_emod_of_nonneg g.1]; exact Go.IntWalk.i64_in _ ⟨by omega, by omega⟩
    clear g
    go_enter Try.func50, Try.ntmps50
    go_wp2_with fail
    refine (l1In_any _ _ _ _).mono ?_
    rintro e w' ⟨rfl, rfl⟩
    rw [h1]
    go_wp2_with fail
    go_ret3
    exact ⟨rfl, rfl⟩
set_option maxHeartbeats 1000000 in
theorem implNonceParts_any (n : Int) (w : World) (hw : (Lit.int .i64 n).wf = true) :
    Calls Try.prog 55 #[.int .i64 n] w fun e w' => e = .returned (.tuple #[.int .i64 (npE n), .int .i64 (npK n), .bool (npB n)]) ∧ w = w' := by
  have hr : -9223372036854775808 ≤ n ∧ n ≤ 9223372036854775807 := by simp only [Lit.wf, Bool.and_eq_true, decide_eq_true_eq] at hw; exact hw
  have q1 : IntKind.i64.wrap (Int.tdiv n 1000) = Int.tdiv n 1000 := Go.IntWalk.i64_in _ (by
    rcases Int.le_total 0 n with h | h
    · rw [Int.tdiv_eq_ediv_of_nonneg h]; exact ⟨by omega, by omega⟩
    · obtain ⟨m, rfl⟩ : ∃ m : Int, n = -m := ⟨-n, by omega⟩
      rw [Int.neg_tdiv, Int.tdiv_eq_ediv_of_nonneg (by omega)]; exact ⟨by omega, by omega⟩)
  have q2 : IntKind.i64.wrap (Int.tmod n 1000) = Int.tmod n 1000 := Go.IntWalk.i64_in _ (by
    rcases Int.le_total 0 n with h | h
    · rw [Int.tmod_eq_emod_of_nonneg h]; exact ⟨by omega, by omega⟩
    · obtain ⟨m, rfl⟩ : ∃ m : Int, n = -m := ⟨-n, by omega⟩
      rw [Int.neg_tmod, Int.tmod_eq_emod_of_nonneg (by omega)]; exact ⟨by omega, by omega⟩)
  have hn := np_nn n
  cases h1 : npB n
  · have HE : npE n = 0 := by rw [npE, h1]; rfl
    have HK : npK n = 0 := by rw [npK, h1]; rfl
    rw [HE, HK]
    rw [h1] at hn
    have hi : nnI (Int.tdiv n 1000) (Int.tmod n 1000) = 0 := by rw [nnI, hn]; rfl
    clear hr hw
    go_enter Try.func55, Try.ntmps55
    go_wp2_with fail
    refine (implNonceOf_any _ _ _).mono ?_
    rintro e w' ⟨rfl, rfl⟩
    rw [hn]
    go_wp2_with fail
    go_ret3
    exact ⟨rfl, rfl⟩
  · have HE : npE n = Int.tdiv n 1000 := by rw [npE, h1]; rfl
    have HK : npK n = Int.tmod n 1000 := by rw [npK, h1]; rfl
    rw [HE, HK]
    rw [h1] at hn
    clear hr hw
    go_enter Try.func55, Try.ntmps55
    go_wp2_with fail
    refine (implNonceOf_any _ _ _).mono ?_
    rintro e w' ⟨rfl, rfl⟩
    rw [hn]
    go_wp2_with fail
    go_ret3
    exact ⟨rfl, rfl⟩
end Go.Proofs.Ytgfhcilhibbooaa
namespace Go.Proofs.Ytgfhcilhibbooaa
open Go.RowKit
set_option linter.unusedVariables false
def KT : Type := Int × Int × Int × Int
def zK : KT := (0, 0, 0, 0)
def kT (x0 x1 x2 x3 : Int) : KT := (x0, x1, x2, x3)
def MCAsk (M : KT) : Nat → Value
  | 0 => .int .i64 M.1
  | 1 => .int .i64 M.2.1
  | 2 => .int .i64 M.2.2.1
  | _ => .int .i64 M.2.2.2
def MFAsk (M : Nat → KT) (c : Nat) : Value := MCAsk (M (c / 4)) (c % 4)
theorem MFAsk_at (M : Nat → KT) (k j : Nat) (hj : j < 4) : MFAsk M (k * 4 + j) = MCAsk (M k) j := by
  have h1 : (k * 4 + j) / 4 = k := by omega
  have h2 : (k * 4 + j) % 4 = j := by omega
  rw [MFAsk, h1, h2]
theorem MFAsk_vals {M : Nat → KT} {k : Nat} {x0 : Int} {x1 : Int} {x2 : Int} {x3 : Int} (hM : M k = (x0, x1, x2, x3)) : MFAsk M (k * 4) = .int .i64 x0 ∧ MFAsk M (k * 4 + 1) = .int .i64 x1 ∧ MFAsk M (k * 4 + 2) = .int .i64 x2 ∧ MFAsk M (k * 4 + 3) = .int .i64 x3 :=
  ⟨by have q := MFAsk_at M k 0 (by decide); rw [hM] at q; exact q, by have q := MFAsk_at M k 1 (by decide); rw [hM] at q; exact q, by have q := MFAsk_at M k 2 (by decide); rw [hM] at q; exact q, by have q := MFAsk_at M k 3 (by decide); rw [hM] at q; exact q⟩
theorem Cs.elAsk {w : World} {b off n k : Nat} {M : Nat → KT} {x0 : Int} {x1 : Int} {x2 : Int} {x3 : Int} (h : Cs w b off (n * 4) (MFAsk M)) (hk : k < n) (hM : M k = (x0, x1, x2, x3)) : w.cell? ⟨b, off + k * 4, none⟩ = some (.int .i64 x0) ∧ w.cell? ⟨b, off + k * 4 + 1, none⟩ = some (.int .i64 x1) ∧ w.cell? ⟨b, off + k * 4 + 2, none⟩ = some (.int .i64 x2) ∧ w.cell? ⟨b, off + k * 4 + 3, none⟩ = some (.int .i64 x3) := by
  obtain ⟨q0, q1, q2, q3⟩ := MFAsk_vals hM
  exact ⟨by have := h.2 (k * 4) (by omega); rw [q0] at this; exact this, by have := h.2 (k * 4 + 1) (by omega); rw [q1] at this; exact this, by have := h.2 (k * 4 + 2) (by omega); rw [q2] at this; exact this, by have := h.2 (k * 4 + 3) (by omega); rw [q3] at this; exact this⟩
theorem tupAsk (M : Nat → KT) (k : Nat) : ∃ (x0 : Int) (x1 : Int) (x2 : Int) (x3 : Int), M k = (x0, x1, x2, x3) := ⟨_, _, _, _, rfl⟩
def rowObjAsk (n : Nat) : Obj := .cells (madeCells #[.int .i64 0, .int .i64 0, .int .i64 0, .int .i64 0] (n * 4)) 43
theorem infoAsk : (Try.prog.info? 43).map (fun i => (i.zero, i.size, i.bytes)) = some (some (.agg #[.int .i64 0, .int .i64 0, .int .i64 0, .int .i64 0]), 4, 32) := by kernel_rfl
theorem mk_rowAsk (n : Nat) (h : n ≤ 1048576) (w : World) : (Instr.makeSlice 37 (.int .i64 (n : Int)) (.int .i64 (n : Int))).run Try.prog w = .ok (.slice (some ⟨w.heap.size, 0, none⟩) n n) (w.alloc (rowObjAsk n)) := by
  obtain ⟨i, hi, hz⟩ := Option.map_eq_some_iff.1 infoAsk
  simp only [Prod.mk.injEq] at hz
  obtain ⟨h1, h2, h3⟩ := hz
  have hr := run_make (P := Try.prog) w 37 43 i _ Try.underlying37 hi h1 .i64 .i64 n n (by omega) (Int.le_refl _) (by rw [h3]; omega) (by omega)
  simp only [Int.toNat_natCast, h2] at hr
  exact hr
theorem rowObjAsk_is (w : World) (n : Nat) (F : Nat → Value) : RowF (w.alloc (rowObjAsk n)) w.heap.size 43 (n * 4) 0 F := by
  have h := World.rowIs_alloc w (madeCells #[.int .i64 0, .int .i64 0, .int .i64 0, .int .i64 0] (n * 4)) 43 (fun i => (madeCells #[.int .i64 0, .int .i64 0, .int .i64 0, .int .i64 0] (n * 4)).getD i undef) (fun i hi => by
    rw [Array.getElem?_eq_getElem hi]; exact congrArg some (by rw [Array.getD_eq_getD_getElem?, Array.getElem?_eq_getElem hi]; rfl))
  rw [size_madeCells] at h
  exact ⟨_, h, fun j hj => absurd hj (Nat.not_lt_zero _)⟩
def mkAsk (q : Int) (c : Nat) : Value := .int .i64 (q + (c : Int))
theorem mkAsk_i {q : Int} {k j : Nat} {x : Int} (h : x = q + ((k * 4 + j : Nat) : Int)) : mkAsk q (k * 4 + j) = .int .i64 x := by rw [mkAsk, h]
end Go.Proofs.Ytgfhcilhibbooaa
namespace Go.Proofs.Ytgfhcilhibbooaa
open Go.RowKit
set_option linter.unusedVariables false
end Go.Proofs.Ytgfhcilhibbooaa
namespace Go.Proofs.Ytgfhcilhibbooaa
open Go.RowKit
set_option linter.unusedVariables false
def trB (x : Int) : Bool := decide (1 ≤ x ∧ x ≤ 4)
def akB (x1 x2 x3 : Int) : Bool := nodB x1 && tmB x2 && trB x3
def lsB (M : Nat → KT) : Nat → Bool
  | 0 => true
  | k + 1 => decide ((M k).1 < (M (k + 1)).1)
def elB (ep us : Int) (M : Nat → KT) (k : Nat) : Bool := npB (M k).1 && decide (npE (M k).1 = ep) && decide (npK (M k).1 < us) && lsB M k && akB (M k).2.1 (M k).2.2.1 (M k).2.2.2
def tOk (ep us : Int) (M : Nat → KT) : Nat → Bool
  | 0 => true
  | k + 1 => tOk ep us M k && elB ep us M k
def usB (u : Int) : Bool := decide (0 ≤ u ∧ u ≤ 1000)
def tabB (ep us : Int) (M : Nat → KT) (n : Nat) : Bool := epB ep && usB us && decide (n ≤ 16) && tOk ep us M n
theorem tOk_no {ep us : Int} {M : Nat → KT} {k : Nat} (h : elB ep us M k = false) : ∀ n, k < n → tOk ep us M n = false
  | 0, hn => absurd hn (Nat.not_lt_zero _)
  | n + 1, hn => by
    rcases Nat.lt_succ_iff_lt_or_eq.1 hn with h1 | h1
    · rw [tOk, tOk_no h n h1, Bool.false_and]
    · subst h1; rw [tOk, h, Bool.and_false]
theorem tabB_bad {ep us : Int} {M : Nat → KT} {n : Nat} (h : tOk ep us M n = false) : tabB ep us M n = false := by rw [tabB, h, Bool.and_false]
theorem tabB_ep {ep us : Int} {M : Nat → KT} {n : Nat} (h : epB ep = false) : tabB ep us M n = false := by rw [tabB, h]; rfl
theorem tabB_us {ep us : Int} {M : Nat → KT} {n : Nat} (h : usB us = false) : tabB ep us M n = false := by rw [tabB, h, Bool.and_false]; rfl
theorem tabB_long {ep us : Int} {M : Nat → KT} {n : Nat} (h : ¬ n ≤ 16) : tabB ep us M n = false := by rw [tabB, decide_eq_false h, Bool.and_false]; rfl
theorem tabB_ok {ep us : Int} {M : Nat → KT} {n : Nat} (h0 : epB ep = true) (h1 : usB us = true) (h2 : n ≤ 16) (h : tOk ep us M n = true) : tabB ep us M n = true := by rw [tabB, h, h0, h1, decide_eq_true h2]; rfl
theorem np_join {n : Int} (h : npB n = true) : n = npE n * 1000 + npK n ∧ 0 ≤ npK n ∧ npK n ≤ 999 := by
  have g : 0 ≤ n ∧ n ≤ 100000999 := of_decide_eq_true h
  rw [npE, npK, h]
  simp only [cond_true]
  rw [Int.tdiv_eq_ediv_of_nonneg g.1, Int.tmod_eq_emod_of_nonneg g.1]
  omega
def lastK (M : Nat → KT) : Nat → Int
  | 0 => -1
  | k + 1 => npK (M k).1
theorem last_ls {ep us : Int} {M : Nat → KT} : ∀ {k : Nat}, tOk ep us M k = true → npB (M k).1 = true → npE (M k).1 = ep → (lastK M k < npK (M k).1 ↔ lsB M k = true)
  | 0, _, h1, _ => by simp [lastK, lsB]; have := (np_join h1).2; omega
  | k + 1, h, h1, h2 => by
    rw [tOk, Bool.and_eq_true, elB] at h
    have g := h.2
    simp only [Bool.and_eq_true, decide_eq_true_eq] at g
    obtain ⟨⟨⟨⟨g1, g2⟩, g3⟩, g4⟩, g5⟩ := g
    have a := np_join h1
    have b := np_join g1
    simp only [lastK, lsB, decide_eq_true_eq]
    omega
def IB3 (w : World) (j : Nat) (ep us : Int) (a : Option Addr) (n c : Nat) : Prop := j < w.heap.size ∧ w.cell? ⟨j, 0, none⟩ = some (.int .i64 ep) ∧ w.cell? ⟨j, 1, none⟩ = some (.int .i64 us) ∧ w.cell? ⟨j, 2, none⟩ = some (.slice a n c)
theorem IB3.below {w w' : World} {j : Nat} {ep us : Int} {a : Option Addr} {n c : Nat} (h : IB3 w j ep us a n c) (hb : Below w.heap.size w w') : IB3 w' j ep us a n c :=
  ⟨Nat.lt_of_lt_of_le h.1 hb.size, by rw [hb.cell (p := ⟨j, 0, none⟩) h.1]; exact h.2.1, by rw [hb.cell (p := ⟨j, 1, none⟩) h.1]; exact h.2.2.1, by rw [hb.cell (p := ⟨j, 2, none⟩) h.1]; exact h.2.2.2⟩
theorem IB3.but {w w' : World} {j q : Nat} {ep us : Int} {a : Option Addr} {n c : Nat} (h : IB3 w j ep us a n c) (hb : But q w w') (hq : j ≠ q) : IB3 w' j ep us a n c :=
  ⟨Nat.lt_of_lt_of_le h.1 hb.2.2.2.1, by rw [hb.cell h.1 hq]; exact h.2.1, by rw [hb.cell h.1 hq]; exact h.2.2.1, by rw [hb.cell h.1 hq]; exact h.2.2.2⟩
theorem IB3.drew {w : World} {j : Nat} {ep us : Int} {a : Option Addr} {n c : Nat} (h : IB3 w j ep us a n c) : IB3 w.drew j ep us a n c := h
theorem IB3.new (w : World) (ep us : Int) (a : Option Addr) (n c : Nat) (T : TypeId) : IB3 (w.alloc (.cells #[.int .i64 ep, .int .i64 us, .slice a n c] T)) w.heap.size ep us a n c := ⟨by simp, by simp, by simp, by simp⟩
def Bk4 (w : World) (j : Nat) (x0 x1 x2 x3 : Int) : Prop := j < w.heap.size ∧ w.cell? ⟨j, 0, none⟩ = some (.int .i64 x0) ∧ w.cell? ⟨j, 1, none⟩ = some (.int .i64 x1) ∧ w.cell? ⟨j, 2, none⟩ = some (.int .i64 x2) ∧ w.cell? ⟨j, 3, none⟩ = some (.int .i64 x3)
theorem Bk4.below {w w' : World} {j : Nat} {x0 x1 x2 x3 : Int} (h : Bk4 w j x0 x1 x2 x3) (hb : Below w.heap.size w w') : Bk4 w' j x0 x1 x2 x3 :=
  ⟨Nat.lt_of_lt_of_le h.1 hb.size, by rw [hb.cell (p := ⟨j, 0, none⟩) h.1]; exact h.2.1, by rw [hb.cell (p := ⟨j, 1, none⟩) h.1]; exact h.2.2.1, by rw [hb.cell (p := ⟨j, 2, none⟩) h.1]; exact h.2.2.2.1, by rw [hb.cell (p := ⟨j, 3, none⟩) h.1]; exact h.2.2.2.2⟩
theorem Bk4.new (w : World) (x0 x1 x2 x3 : Int) (T : TypeId) : Bk4 (w.alloc (.cells #[.int .i64 x0, .int .i64 x1, .int .i64 x2, .int .i64 x3] T)) w.heap.size x0 x1 x2 x3 := ⟨by simp, by simp, by simp, by simp, by simp⟩
theorem Bk4.but {w w' : World} {j q : Nat} {x0 x1 x2 x3 : Int} (h : Bk4 w j x0 x1 x2 x3) (hb : But q w w') (hq : j ≠ q) : Bk4 w' j x0 x1 x2 x3 :=
  ⟨Nat.lt_of_lt_of_le h.1 hb.2.2.2.1, by rw [hb.cell h.1 hq]; exact h.2.1, by rw [hb.cell h.1 hq]; exact h.2.2.1, by rw [hb.cell h.1 hq]; exact h.2.2.2.1, by rw [hb.cell h.1 hq]; exact h.2.2.2.2⟩
set_option maxHeartbeats 2000000 in
theorem askOk_any (x0 x1 x2 x3 : Int) (w : World) :
    Calls Try.prog 56 #[.agg #[.int .i64 x0, .int .i64 x1, .int .i64 x2, .int .i64 x3]] w fun e w' => e = .returned (.bool (akB x1 x2 x3)) ∧ Below w.heap.size w w' := by
  have B0 := Below.nw w (.cells #[.int .i64 x0, .int .i64 x1, .int .i64 x2, .int .i64 x3] 43)
  cases h1 : nodB x1
  · have HN : Hid (akB x1 x2 x3 = false) := by rw [Hid, akB, h1]; rfl
    go_enter Try.func56, Try.ntmps56
    go_wp2_with fail
    refine (isNode_any _ _).mono ?_
    rintro e w' ⟨rfl, rfl⟩
    rw [h1]
    go_wp2_with fail
    go_ret
    exact ⟨ret_bool HN.out.symm, B0⟩
  · cases h2 : tmB x2
    · have HN : Hid (akB x1 x2 x3 = false) := by rw [Hid, akB, h2, Bool.and_false]; rfl
      go_enter Try.func56, Try.ntmps56
      go_wp2_with fail
      refine (isNode_any _ _).mono ?_
      rintro e w' ⟨rfl, rfl⟩
      rw [h1]
      go_wp2_with fail
      refine (isTime_any _ _).mono ?_
      rintro e w' ⟨rfl, rfl⟩
      rw [h2]
      go_wp2_with fail
      go_ret
      exact ⟨ret_bool HN.out.symm, B0⟩
    · have HN : Hid (akB x1 x2 x3 = trB x3) := by rw [Hid, akB, h1, h2]; rfl
      by_cases h3 : 1 ≤ x3
      · by_cases h4 : x3 ≤ 4
        · have HT : Hid (trB x3 = true) := by simp [Hid, trB]; omega
          go_enter Try.func56, Try.ntmps56
          go_wp2_with fail
          refine (isNode_any _ _).mono ?_
          rintro e w' ⟨rfl, rfl⟩
          rw [h1]
          go_wp2_with fail
          refine (isTime_any _ _).mono ?_
          rintro e w' ⟨rfl, rfl⟩
          rw [h2]
          go_wp2_with fail
          go_ret
          exact ⟨ret_bool (HN.out.trans HT.out).symm, B0⟩
        · have HT : Hid (trB x3 = false) := by simp [Hid, trB]; omega
          have hd4 : decide (x3 ≤ 4) = false := decide_eq_false h4
          go_enter Try.func56, Try.ntmps56
          go_wp2_with fail
          refine (isNode_any _ _).mono ?_
          rintro e w' ⟨rfl, rfl⟩
          rw [h1]
          go_wp2_with fail
          refine (isTime_any _ _).mono ?_
          rintro e w' ⟨rfl, rfl⟩
          rw [h2]
          go_wp2_with fail
          go_ret
          exact ⟨ret_bool (HN.out.trans HT.out).symm, B0⟩
      · have HT : Hid (trB x3 = false) := by simp [Hid, trB]; omega
        go_enter Try.func56, Try.ntmps56
        go_wp2_with fail
        refine (isNode_any _ _).mono ?_
        rintro e w' ⟨rfl, rfl⟩
        rw [h1]
        go_wp2_with fail
        refine (isTime_any _ _).mono ?_
        rintro e w' ⟨rfl, rfl⟩
        rw [h2]
        go_wp2_with fail
        go_ret
        exact ⟨ret_bool (HN.out.trans HT.out).symm, B0⟩
end Go.Proofs.Ytgfhcilhibbooaa
namespace Go.Proofs.Ytgfhcilhibbooaa
open Go.RowKit
set_option linter.unusedVariables false
def kv (M : KT) : Value := .agg #[.int .i64 M.1, .int .i64 M.2.1, .int .i64 M.2.2.1, .int .i64 M.2.2.2]
def R0k (v : Value) : Option (DataW Value × List MemPlace) := some (.held v, [])
def atK (o : Option KT) (z : DataW Value) : DataW Value := match o with | some M => .held (kv M) | none => z
def MapK (w : World) (b n : Nat) (F : Int → Option KT) : Prop := ∃ D : DataW Value, w.ownsMap Try.prog 3 R0k b n D ∧ ∀ x, (∀ z, D.atKey (.int .i64 x) z = atK (F x) z) ∧ Maps.has D (.int .i64 x) = (F x).isSome
theorem lawKk : Maps.Keyed Try.prog 3 := Maps.int_keyed Try.underlying3
theorem zeroAk (w : World) : (zeroValue 43).run Try.prog w = .ok (kv zK) w := by kernel_rfl
theorem run_mkmapK (n : Nat) (w : World) : (Instr.makeMap 70 (some (.int .i64 (n : Int)))).run Try.prog w = .ok (.map (some w.heap.size)) (w.alloc (.map #[] 0)) := by
  first | kernel_rfl | rfl | (simp [Instr.makeMap, go_sem]; done) | (simp [Instr.makeMap]; done)
theorem MapK.made (w : World) : MapK (w.alloc (.map #[] 0)) w.heap.size 0 (fun _ => none) := ⟨.map [], World.ownsMap_made w _ _ _, fun x => ⟨fun z => rfl, rfl⟩⟩
theorem MapK.kept {w w' : World} {b n : Nat} {F : Int → Option KT} (h : MapK w b n F) {row : Option Nat} (hg : w.grownBy w' row) (hne : some b ≠ row) : MapK w' b n F := by
  obtain ⟨D, h1, h2⟩ := h
  exact ⟨D, h1.kept hg hne, h2⟩
theorem MapK.lt {w : World} {b n : Nat} {F : Int → Option KT} (h : MapK w b n F) : b < w.heap.size := by
  obtain ⟨D, h1, h2⟩ := h
  exact h1.lt
theorem MapK.below {w w' : World} {b n : Nat} {F : Int → Option KT} (h : MapK w b n F) (hb : Below w.heap.size w w') : MapK w' b n F :=
  h.kept (row := none) ⟨hb.os, hb.tape, hb.output, hb.size, fun k hk _ => hb.block k hk⟩ (by simp)
theorem MapK.setCell {w : World} {b n : Nat} {F : Int → Option KT} (h : MapK w b n F) {a : Addr} (ha : b ≠ a.block) (u : Value) : MapK (w.setCell a u) b n F := by
  obtain ⟨D, h1, h2⟩ := h
  exact ⟨D, h1.setCell ha u, h2⟩
theorem MapK.congr {w : World} {b n : Nat} {F G : Int → Option KT} (h : MapK w b n F) (e : ∀ x, F x = G x) : MapK w b n G := by
  obtain ⟨D, h1, h2⟩ := h
  exact ⟨D, h1, fun x => by rw [← e x]; exact h2 x⟩
theorem held_injK {o : Option KT} {v : Value} {ps : List MemPlace} (h : R0k v = some (atK o (.held (kv zK)), ps)) : v = kv (o.getD zK) := by
  unfold R0k at h
  simp only [Option.some.injEq, Prod.mk.injEq] at h
  cases o with
  | none => simp only [atK, DataW.held.injEq] at h; exact h.1
  | some M => simp only [atK, DataW.held.injEq] at h; exact h.1
theorem MapK.look_ok {w : World} {b n : Nat} {F : Int → Option KT} (h : MapK w b n F) {x : Int} (hx : (Lit.int .i64 x).wf = true) : (Instr.lookup 70 (.map (some b)) (.int .i64 x) true).run Try.prog w = .ok (.tuple #[kv ((F x).getD zK), .bool (F x).isSome]) w := by
  obtain ⟨D, h1, h2⟩ := h
  obtain ⟨v, ps, hrun, hv⟩ := h1.look_ok (t := 70) (e := 43) lawKk Try.underlying70 (zeroAk w) (zd := .held (kv zK)) (zp := []) rfl (Maps.keyOf_int_mk Try.underlying3 hx)
  rw [(h2 x).1] at hv
  rw [hrun, held_injK hv, (h2 x).2]
theorem MapK.look {w : World} {b n : Nat} {F : Int → Option KT} (h : MapK w b n F) {x : Int} (hx : (Lit.int .i64 x).wf = true) : (Instr.lookup 70 (.map (some b)) (.int .i64 x) false).run Try.prog w = .ok (kv ((F x).getD zK)) w := by
  obtain ⟨D, h1, h2⟩ := h
  obtain ⟨v, ps, hrun, hv⟩ := h1.lookup (t := 70) (e := 43) lawKk Try.underlying70 (zeroAk w) (zd := .held (kv zK)) (zp := []) rfl (Maps.keyOf_int_mk Try.underlying3 hx)
  rw [(h2 x).1] at hv
  rw [hrun, held_injK hv]
theorem lit_neK {x y : Int} (h : x ≠ y) : (Lit.int .i64 x) ≠ (Lit.int .i64 y) := fun e => h (by injection e)
theorem MapK.put {w : World} {b n : Nat} {F : Int → Option KT} (h : MapK w b n F) {x : Int} (hx : (Lit.int .i64 x).wf = true) (hn : n < maxLen) (M : KT) :
    ∃ w', (Instr.mapUpdate 70 (.map (some b)) (.int .i64 x) (kv M)).run Try.prog w = .ok () w' ∧ MapK w' b (n + 1) (fun y => if y = x then some M else F y) ∧ w.grownBy w' (some b) := by
  obtain ⟨D, h1, h2⟩ := h
  have hD := h1.isMap
  obtain ⟨w', hrun, ho, hg⟩ := h1.update (t := 70) (e := 43) lawKk Try.underlying70 hn (key := .int .i64 x) (val := kv M) (d := .held (kv M)) (ps := []) (Maps.keyOf_int_mk Try.underlying3 hx) rfl
  refine ⟨w', hrun, ⟨_, ho, fun y => ?_⟩, hg⟩
  by_cases e : y = x
  · subst e
    simp only [if_true]
    exact ⟨fun z => Maps.atKey_put_same hD (show WideAt.IsKeyLit (.int .i64 y) from trivial) _ _, Maps.has_put_same hD (show WideAt.IsKeyLit (.int .i64 y) from trivial) _⟩
  · simp only [if_neg e]
    exact ⟨fun z => (Maps.atKey_put_other (lit_neK e) _ _).trans ((h2 y).1 z), (Maps.has_put_other (lit_neK e) _).trans (h2 y).2⟩
theorem MapK.del {w : World} {b n : Nat} {F : Int → Option KT} (h : MapK w b n F) {x : Int} (hx : (Lit.int .i64 x).wf = true) (ty : TypeId) :
    ∃ w', (Builtin.delete_ #[70, 3] ty #[.map (some b), .int .i64 x]).run Try.prog w = .ok (.tuple #[]) w' ∧ MapK w' b n (fun y => if y = x then none else F y) ∧ w.grownBy w' (some b) := by
  obtain ⟨D, h1, h2⟩ := h
  obtain ⟨w', hrun, ho, hg⟩ := h1.drop (t := 70) (e := 43) lawKk Try.underlying70 (Maps.keyOf_int_mk Try.underlying3 hx) ty
  refine ⟨w', hrun, ⟨_, ho, fun y => ?_⟩, hg.grown⟩
  by_cases e : y = x
  · subst e
    simp only [if_true]
    exact ⟨fun z => Maps.atKey_del_same z, Maps.has_del_same⟩
  · simp only [if_neg e]
    exact ⟨fun z => (Maps.atKey_del_other (lit_neK e) _).trans ((h2 y).1 z), (Maps.has_del_other (lit_neK e)).trans (h2 y).2⟩

theorem But.oneK (w : World) (q o : Nat) (u : Value) : But q w (w.setCell ⟨q, o, none⟩ u) := (But.refl q w).setCell o u
theorem But.ofGrownK {w w' : World} {q : Nat} (h : w.grownBy w' (some q)) : But q w w' := ⟨h.os, h.tape, h.output, h.size, fun k hk hq => h.block k hk (fun e => hq (by simpa using e))⟩
theorem But.grK {w w' : World} {q : Nat} (h : But q w w') : w.grownBy w' (some q) := ⟨h.1, h.2.1, h.2.2.1, h.2.2.2.1, fun k hk hp => h.2.2.2.2 k hk (fun e => hp (by rw [e]))⟩
theorem MapK.but {w w' : World} {b n q : Nat} {F : Int → Option KT} (h : MapK w b n F) (hb : But q w w') (hq : b ≠ q) : MapK w' b n F := h.kept hb.grK (by simpa using hq)
theorem MapK.drew {w : World} {b n : Nat} {F : Int → Option KT} (h : MapK w b n F) : MapK w.drew b n F := h
theorem RowF.butK {w w' : World} {b N m q : Nat} {T : TypeId} {F : Nat → Value} (h : RowF w b T N m F) (hb : But q w w') (hq : b ≠ q) : RowF w' b T N m F := by
  obtain ⟨g, hr, hg⟩ := h
  exact ⟨g, hr.of_block (hb.2.2.2.2 b hr.lt hq), hg⟩
def vI : Value → Int | .int _ q => q | _ => 0
/- A block of three cells. -/
def Bx3 (w : World) (j : Nat) (u0 u1 u2 : Value) : Prop := j < w.heap.size ∧ w.cell? ⟨j, 0, none⟩ = some u0 ∧ w.cell? ⟨j, 1, none⟩ = some u1 ∧ w.cell? ⟨j, 2, none⟩ = some u2 ∧ w.frozen? ⟨j, 0, none⟩ = false ∧ w.frozen? ⟨j, 1, none⟩ = false ∧ w.frozen? ⟨j, 2, none⟩ = false
theorem Bx3.below {w w' : World} {j : Nat} {u0 u1 u2 : Value} (h : Bx3 w j u0 u1 u2) (hb : Below w.heap.size w w') : Bx3 w' j u0 u1 u2 := by
  obtain ⟨h0, h1, h2, h3, h4, h5, h6⟩ := h
  exact ⟨Nat.lt_of_lt_of_le h0 hb.size, by rw [hb.cell (p := ⟨j, 0, none⟩) h0]; exact h1, by rw [hb.cell (p := ⟨j, 1, none⟩) h0]; exact h2, by rw [hb.cell (p := ⟨j, 2, none⟩) h0]; exact h3, by rw [hb.frozen (p := ⟨j, 0, none⟩) h0]; exact h4, by rw [hb.frozen (p := ⟨j, 1, none⟩) h0]; exact h5, by rw [hb.frozen (p := ⟨j, 2, none⟩) h0]; exact h6⟩
theorem Bx3.but {w w' : World} {j q : Nat} {u0 u1 u2 : Value} (h : Bx3 w j u0 u1 u2) (hb : But q w w') (hq : j ≠ q) : Bx3 w' j u0 u1 u2 := by
  obtain ⟨h0, h1, h2, h3, h4, h5, h6⟩ := h
  exact ⟨Nat.lt_of_lt_of_le h0 hb.2.2.2.1, by rw [hb.cell h0 hq]; exact h1, by rw [hb.cell h0 hq]; exact h2, by rw [hb.cell h0 hq]; exact h3, by rw [hb.frozen h0 hq]; exact h4, by rw [hb.frozen h0 hq]; exact h5, by rw [hb.frozen h0 hq]; exact h6⟩
theorem Bx3.drew {w : World} {j : Nat} {u0 u1 u2 : Value} (h : Bx3 w j u0 u1 u2) : Bx3 w.drew j u0 u1 u2 := h
theorem Bx3.new (w : World) (u0 u1 u2 : Value) (T : TypeId) : Bx3 (w.alloc (.cells #[u0, u1, u2] T)) w.heap.size u0 u1 u2 := ⟨by simp, by simp, by simp, by simp, by simp, by simp, by simp⟩
theorem Bx3.set {w : World} {j : Nat} {u0 u1 u2 : Value} (h : Bx3 w j u0 u1 u2) (a0 a1 a2 : Value) : Bx3 (((w.setCell ⟨j, 0, none⟩ a0).setCell ⟨j, 1, none⟩ a1).setCell ⟨j, 2, none⟩ a2) j a0 a1 a2 := by
  obtain ⟨h0, h1, h2, h3, h4, h5, h6⟩ := h
  have e1 : (w.setCell ⟨j, 0, none⟩ a0).cell? ⟨j, 1, none⟩ = some u1 := (World.cell?_setCell_other _ _ _ _ (by simp)).trans h2
  have e2 : ((w.setCell ⟨j, 0, none⟩ a0).setCell ⟨j, 1, none⟩ a1).cell? ⟨j, 2, none⟩ = some u2 := (World.cell?_setCell_other _ _ _ _ (by simp)).trans ((World.cell?_setCell_other _ _ _ _ (by simp)).trans h3)
  refine ⟨by simpa using h0, ?_, ?_, World.cell?_setCell_same _ _ _ e2, by simpa using h4, by simpa using h5, by simpa using h6⟩
  · exact (World.cell?_setCell_other _ _ _ _ (by simp)).trans ((World.cell?_setCell_other _ _ _ _ (by simp)).trans (World.cell?_setCell_same _ _ _ h1))
  · exact (World.cell?_setCell_other _ _ _ _ (by simp)).trans (World.cell?_setCell_same _ _ _ e1)
theorem Bx3.set1 {w : World} {j : Nat} {u0 u1 u2 : Value} (h : Bx3 w j u0 u1 u2) (a1 : Value) : Bx3 (w.setCell ⟨j, 1, none⟩ a1) j u0 a1 u2 := by
  obtain ⟨h0, h1, h2, h3, h4, h5, h6⟩ := h
  exact ⟨by simpa using h0, (World.cell?_setCell_other _ _ _ _ (by simp)).trans h1, World.cell?_setCell_same _ _ _ h2, (World.cell?_setCell_other _ _ _ _ (by simp)).trans h3, by simpa using h4, by simpa using h5, by simpa using h6⟩
theorem Bx3.set2 {w : World} {j : Nat} {u0 u1 u2 : Value} (h : Bx3 w j u0 u1 u2) (a2 : Value) : Bx3 (w.setCell ⟨j, 2, none⟩ a2) j u0 u1 a2 := by
  obtain ⟨h0, h1, h2, h3, h4, h5, h6⟩ := h
  exact ⟨by simpa using h0, (World.cell?_setCell_other _ _ _ _ (by simp)).trans h1, (World.cell?_setCell_other _ _ _ _ (by simp)).trans h2, World.cell?_setCell_same _ _ _ h3, by simpa using h4, by simpa using h5, by simpa using h6⟩
theorem Bx3.ib {w : World} {j : Nat} {ep us : Int} {a : Option Addr} {n c : Nat} (h : Bx3 w j (.int .i64 ep) (.int .i64 us) (.slice a n c)) : IB3 w j ep us a n c := ⟨h.1, h.2.1, h.2.2.1, h.2.2.2.1⟩
theorem put3_butK (w : World) (j : Nat) (a0 a1 a2 : Value) : But j w (((w.setCell ⟨j, 0, none⟩ a0).setCell ⟨j, 1, none⟩ a1).setCell ⟨j, 2, none⟩ a2) := (((But.refl j w).setCell 0 a0).setCell 1 a1).setCell 2 a2
/- Asks by their nonces: the first k of M. -/
def lkK (M : Nat → KT) : Nat → Int → Option KT
  | 0, _ => none
  | k + 1, x => if (M k).1 = x then some (M k) else lkK M k x
theorem lkK_some {M : Nat → KT} {x : Int} : ∀ {k : Nat}, (lkK M k x).isSome = true ↔ ∃ j, j < k ∧ (M j).1 = x
  | 0 => by simp [lkK]
  | k + 1 => by
    rw [lkK]
    by_cases h : (M k).1 = x
    · rw [if_pos h]; simp; exact ⟨k, by omega, h⟩
    · rw [if_neg h, lkK_some]
      constructor
      · rintro ⟨j, hj, e⟩; exact ⟨j, by omega, e⟩
      · rintro ⟨j, hj, e⟩
        exact ⟨j, by rcases Nat.lt_succ_iff_lt_or_eq.1 hj with q | q; exact q; subst q; exact absurd e h, e⟩
theorem lkK_step {M : Nat → KT} {k : Nat} {x0 : Int} (e : (M k).1 = x0) (y : Int) : lkK M (k + 1) y = if y = x0 then some (M k) else lkK M k y := by
  rw [lkK]
  by_cases h : y = x0
  · rw [if_pos h, if_pos (e.trans h.symm)]
  · rw [if_neg h, if_neg (fun q => h (q.symm.trans e))]
/- The first m of A ascend by their nonces. -/
def Asc (A : Nat → KT) (m : Nat) : Prop := ∀ i j, i < j → j < m → (A i).1 < (A j).1
theorem lkK_at {A : Nat → KT} : ∀ {m : Nat}, Asc A m → ∀ {j : Nat}, j < m → lkK A m (A j).1 = some (A j)
  | 0, _, j, h => absurd h (Nat.not_lt_zero _)
  | m + 1, ha, j, h => by
    rw [lkK]
    by_cases e : j = m
    · subst e; rw [if_pos rfl]
    · rw [if_neg (by have := ha j m (by omega) (by omega); omega)]
      exact lkK_at (fun a b h1 h2 => ha a b h1 (by omega)) (by omega)
/- A book's map: F tells just the first m of A, ascending. -/
def FA (F : Int → Option KT) (A : Nat → KT) (m : Nat) : Prop := Asc A m ∧ (∀ j, j < m → F (A j).1 = some (A j)) ∧ ∀ x, (∀ j, j < m → (A j).1 ≠ x) → F x = none
theorem FA.has {F : Int → Option KT} {A : Nat → KT} {m : Nat} (h : FA F A m) (x : Int) : (F x).isSome = true ↔ ∃ j, j < m ∧ (A j).1 = x := by
  constructor
  · intro hx
    by_cases he : ∃ j, j < m ∧ (A j).1 = x
    · exact he
    · rw [h.2.2 x (fun j hj e => he ⟨j, hj, e⟩)] at hx; cases hx
  · rintro ⟨j, hj, rfl⟩; rw [h.2.1 j hj]; rfl
theorem FA.lk {A : Nat → KT} {m : Nat} (h : Asc A m) : FA (lkK A m) A m := ⟨h, fun j hj => lkK_at h hj, fun x hx => by
  cases e : lkK A m x with
  | none => rfl
  | some v =>
    obtain ⟨j, hj, q⟩ := lkK_some.1 (by rw [e]; rfl : (lkK A m x).isSome = true)
    exact absurd q (hx j hj)⟩
def nzs (A : Nat → KT) (m : Nat) : List Int := (List.range m).map fun j => (A j).1
theorem nzs_mem {A : Nat → KT} {m : Nat} {x : Int} : x ∈ nzs A m ↔ ∃ j, j < m ∧ (A j).1 = x := by simp [nzs]
theorem nzs_asc {A : Nat → KT} {m : Nat} (h : Asc A m) : (nzs A m).Pairwise (· < ·) := by
  rw [nzs, List.pairwise_map]
  exact List.Pairwise.imp_of_mem (fun {a b} ha hb hab => h a b hab (List.mem_range.1 hb)) List.pairwise_lt_range
theorem MapK.keys {w : World} {b n m : Nat} {F : Int → Option KT} {A : Nat → KT} (h : MapK w b n F) (hF : FA F A m) : ∃ D : DataW Value, w.ownsMap Try.prog 3 R0k b n D ∧ (nzs A m).Perm (intKeys D) ∧ Maps.size D = m := by
  obtain ⟨D, h1, h2⟩ := h
  have hp : (nzs A m).Perm (intKeys D) := CollectedI.perm (left := fun _ => false) ⟨List.Pairwise.imp (fun hab => Int.ne_of_lt hab) (nzs_asc hF.1), fun x => by rw [nzs_mem, (h2 x).2, hF.has x]; simp⟩ h1 lawKk Try.underlying3 (fun _ => rfl)
  refine ⟨D, h1, hp, ?_⟩
  have hl := hp.length_eq
  obtain ⟨es, hD, _⟩ := h1.keysOf
  subst hD
  simp [nzs, intKeys] at hl
  simp [Maps.size]
  omega
theorem sorted_nzs {A : Nat → KT} {m : Nat} (h : Asc A m) {ss : List Int} {l : List Int} (hs : ss.Perm l) (hl : (nzs A m).Perm l) : ss.mergeSort (fun x y => decide (x ≤ y)) = nzs A m := by
  have e1 := mergeSort_of_perm_i (hs.trans hl.symm)
  refine e1.trans ?_
  have tr : ∀ a b c : Int, leI a b = true → leI b c = true → leI a c = true := fun a b c h1 h2 => by simp only [leI, decide_eq_true_eq] at *; exact Int.le_trans h1 h2
  have tuu' : ∀ a b : Int, (leI a b || leI b a) = true := fun a b => by simp only [leI, Bool.or_eq_true, decide_eq_true_eq]; exact Int.le_total a b
  refine List.Perm.eq_of_pairwise (le := fun a b => leI a b = true) (fun a b _ _ h1 h2 => ?_) (List.pairwise_mergeSort tr tuu' _) (List.Pairwise.imp (fun {a b} hab => by simp only [leI, decide_eq_true_eq]; exact Int.le_of_lt hab) (nzs_asc h)) (List.mergeSort_perm _ leI)
  simp only [leI, decide_eq_true_eq] at h1 h2
  exact Int.le_antisymm h1 h2
theorem MapK.len {w : World} {b n m : Nat} {F : Int → Option KT} {A : Nat → KT} (h : MapK w b n F) (hF : FA F A m) (ty : TypeId) : (Builtin.len_ #[70] ty #[.map (some b)]).run Try.prog w = .ok (.int .i64 (m : Int)) w := by
  obtain ⟨D, h1, _, h3⟩ := h.keys hF
  have := h1.len (t := 70) (e := 43) Try.underlying70 ty
  rw [h3] at this
  exact this
end Go.Proofs.Ytgfhcilhibbooaa
namespace Go.Proofs.Ytgfhcilhibbooaa
open Go.Shelf
def keysA_ren : Go.Shelf.Ren := ⟨fun | 7 => 62 | 10 => 67 | n => n, fun | 23 => 70 | 26 => 3 | 3 => 43 | 28 => 96 | 0 => 0 | 27 => 95 | 33 => 56 | 4 => 4 | n => n, fun | n => n⟩
theorem keysA : Go.Proofs.SlLaysZI.n7 Try.prog keysA_ren := {
  mixed := by kernel_rfl
  f7 := ⟨Try.f62.name, by decide, Try.func62.trans (congrArg some (by kernel_rfl))⟩
  f10 := ⟨Try.f67.name, by decide, Try.func67.trans (congrArg some (by kernel_rfl))⟩
  t0 := Try.underlying0
  a0 := Try.isAgg0
  z0 := Try.sizeOf0
  v0 := Try.zeroValue0
  t4 := Try.underlying4
  a4 := Try.isAgg4
  z4 := Try.sizeOf4
  v4 := Try.zeroValue4
  t23 := Try.underlying70
  a23 := Try.isAgg70
  z23 := Try.sizeOf70
  v23 := Try.zeroValue70
  t26 := Try.underlying3
  a26 := Try.isAgg3
  z26 := Try.sizeOf3
  v26 := Try.zeroValue3
  t27 := Try.underlying95
  a27 := Try.isAgg95
  z27 := Try.sizeOf95
  v27 := Try.zeroValue95
  t28 := Try.underlying96
  a28 := Try.isAgg96
  z28 := Try.sizeOf96
  v28 := Try.zeroValue96
  t33 := Try.underlying56
  a33 := Try.isAgg56
  z33 := Try.sizeOf56
  v33 := Try.zeroValue56 }
def sortedA_ren : Go.Shelf.Ren := ⟨fun | 6 => 61 | 8 => 65 | 9 => 66 | 11 => 68 | 13 => 70 | 12 => 69 | 23 => 80 | 24 => 81 | 14 => 71 | 15 => 72 | 16 => 73 | 17 => 74 | 18 => 75 | 19 => 76 | 20 => 77 | 21 => 78 | 22 => 79 | 25 => 82 | 26 => 83 | 27 => 84 | 28 => 85 | 29 => 86 | 30 => 87 | 31 => 88 | n => n, fun | 26 => 3 | 28 => 96 | 24 => 51 | 0 => 0 | 3 => 3 | 37 => 93 | 48 => 114 | 50 => 116 | 4 => 4 | 40 => 107 | 39 => 106 | 45 => 98 | 5 => 5 | 9 => 9 | 51 => 117 | 55 => 121 | 57 => 123 | 58 => 124 | 33 => 56 | n => n, fun | n => n⟩
theorem sortedA : Go.Proofs.SlLaysZI.n6 Try.prog sortedA_ren := {
  mixed := by kernel_rfl
  f6 := ⟨Try.f61.name, by decide, Try.func61.trans (congrArg some (by kernel_rfl))⟩
  f8 := ⟨Try.f65.name, by decide, Try.func65.trans (congrArg some (by kernel_rfl))⟩
  f11 := ⟨Try.f68.name, by decide, Try.func68.trans (congrArg some (by kernel_rfl))⟩
  t0 := Try.underlying0
  a0 := Try.isAgg0
  z0 := Try.sizeOf0
  v0 := Try.zeroValue0
  t24 := Try.underlying51
  a24 := Try.isAgg51
  z24 := Try.sizeOf51
  v24 := Try.zeroValue51
  t26 := Try.underlying3
  a26 := Try.isAgg3
  z26 := Try.sizeOf3
  v26 := Try.zeroValue3
  t28 := Try.underlying96
  a28 := Try.isAgg96
  z28 := Try.sizeOf96
  v28 := Try.zeroValue96
  i26 := by kernel_rfl }
def sortA_ren : Go.Shelf.Ren := ⟨fun | 5 => 66 | 8 => 70 | 7 => 69 | 19 => 80 | 20 => 81 | 10 => 71 | 11 => 72 | 12 => 73 | 13 => 74 | 14 => 75 | 15 => 76 | 16 => 77 | 17 => 78 | 18 => 79 | 30 => 82 | 31 => 83 | 32 => 84 | 33 => 85 | 34 => 86 | 35 => 87 | 40 => 88 | n => n, fun | 23 => 51 | 25 => 3 | 3 => 3 | 32 => 93 | 22 => 51 | 0 => 0 | 44 => 114 | 46 => 116 | 4 => 4 | 36 => 107 | 35 => 106 | 41 => 98 | 5 => 5 | 9 => 9 | 53 => 117 | 57 => 121 | 63 => 123 | 64 => 124 | n => n, fun | n => n⟩
theorem sortA : Go.Proofs.SlLaysM.n5 Try.prog sortA_ren := {
  mixed := by kernel_rfl
  f5 := ⟨Try.f66.name, by decide, Try.func66.trans (congrArg some (by kernel_rfl))⟩
  f7 := ⟨Try.f69.name, by decide, Try.func69.trans (congrArg some (by kernel_rfl))⟩
  f8 := Try.func70.trans (congrArg some (by kernel_rfl))
  f10 := ⟨Try.f71.name, by decide, Try.func71.trans (congrArg some (by kernel_rfl))⟩
  f11 := ⟨Try.f72.name, by decide, Try.func72.trans (congrArg some (by kernel_rfl))⟩
  f12 := ⟨Try.f73.name, by decide, Try.func73.trans (congrArg some (by kernel_rfl))⟩
  f13 := ⟨Try.f74.name, by decide, Try.func74.trans (congrArg some (by kernel_rfl))⟩
  f14 := ⟨Try.f75.name, by decide, Try.func75.trans (congrArg some (by kernel_rfl))⟩
  f15 := ⟨Try.f76.name, by decide, Try.func76.trans (congrArg some (by kernel_rfl))⟩
  f16 := ⟨Try.f77.name, by decide, Try.func77.trans (congrArg some (by kernel_rfl))⟩
  f17 := ⟨Try.f78.name, by decide, Try.func78.trans (congrArg some (by kernel_rfl))⟩
  f18 := ⟨Try.f79.name, by decide, Try.func79.trans (congrArg some (by kernel_rfl))⟩
  f19 := Try.func80.trans (congrArg some (by kernel_rfl))
  f20 := Try.func81.trans (congrArg some (by kernel_rfl))
  f30 := ⟨Try.f82.name, by decide, Try.func82.trans (congrArg some (by kernel_rfl))⟩
  f31 := Try.func83.trans (congrArg some (by kernel_rfl))
  f32 := Try.func84.trans (congrArg some (by kernel_rfl))
  f33 := ⟨Try.f85.name, by decide, Try.func85.trans (congrArg some (by kernel_rfl))⟩
  f34 := ⟨Try.f86.name, by decide, Try.func86.trans (congrArg some (by kernel_rfl))⟩
  f35 := ⟨Try.f87.name, by decide, Try.func87.trans (congrArg some (by kernel_rfl))⟩
  f40 := ⟨Try.f88.name, by decide, Try.func88.trans (congrArg some (by kernel_rfl))⟩
  t0 := Try.underlying0
  a0 := Try.isAgg0
  z0 := Try.sizeOf0
  v0 := Try.zeroValue0
  t3 := Try.underlying3
  a3 := Try.isAgg3
  z3 := Try.sizeOf3
  v3 := Try.zeroValue3
  t4 := Try.underlying4
  a4 := Try.isAgg4
  z4 := Try.sizeOf4
  v4 := Try.zeroValue4
  t5 := Try.underlying5
  a5 := Try.isAgg5
  z5 := Try.sizeOf5
  v5 := Try.zeroValue5
  t9 := Try.underlying9
  a9 := Try.isAgg9
  z9 := Try.sizeOf9
  v9 := Try.zeroValue9
  t22 := Try.underlying51
  a22 := Try.isAgg51
  z22 := Try.sizeOf51
  v22 := Try.zeroValue51
  t23 := Try.underlying51
  a23 := Try.isAgg51
  z23 := Try.sizeOf51
  v23 := Try.zeroValue51
  t25 := Try.underlying3
  a25 := Try.isAgg3
  z25 := Try.sizeOf3
  v25 := Try.zeroValue3
  t32 := Try.underlying93
  a32 := Try.isAgg93
  z32 := Try.sizeOf93
  v32 := Try.zeroValue93
  t35 := Try.underlying106
  a35 := Try.isAgg106
  z35 := Try.sizeOf106
  v35 := Try.zeroValue106
  t36 := Try.underlying107
  a36 := Try.isAgg107
  z36 := Try.sizeOf107
  v36 := Try.zeroValue107
  t41 := Try.underlying98
  a41 := Try.isAgg98
  z41 := Try.sizeOf98
  v41 := Try.zeroValue98
  t44 := Try.underlying114
  a44 := Try.isAgg114
  z44 := Try.sizeOf114
  v44 := Try.zeroValue114
  t46 := Try.underlying116
  a46 := Try.isAgg116
  z46 := Try.sizeOf116
  v46 := Try.zeroValue116
  t53 := Try.underlying117
  a53 := Try.isAgg117
  z53 := Try.sizeOf117
  v53 := Try.zeroValue117
  t57 := Try.underlying121
  a57 := Try.isAgg121
  z57 := Try.sizeOf121
  v57 := Try.zeroValue121
  t63 := Try.underlying123
  a63 := Try.isAgg123
  z63 := Try.sizeOf123
  v63 := Try.zeroValue123
  t64 := Try.underlying124
  a64 := Try.isAgg124
  z64 := Try.sizeOf124
  v64 := Try.zeroValue124 }
end Go.Proofs.Ytgfhcilhibbooaa
namespace Go.Proofs.Ytgfhcilhibbooaa
open Go.RowKit
set_option linter.unusedVariables false
open Go.Maps Go.Sort Go.Shelf
theorem sortsA (m : Nat) : AnyZI.SortsIn Try.prog sortedA_ren Fence.wide m :=
  ⟨fun blk off cap ss W hH hblk hsz => callsIn_wide.2 (AnyM.slices_Sort_int sortA blk off cap ss W hH hblk hsz),
   fun p cap W => callsIn_wide.2 (AnyM.slices_Sort_int_none sortA p cap W)⟩
set_option maxHeartbeats 1000000 in
theorem nonces_any (bx b n m : Nat) (u0 u1 : Value) (F : Int → Option KT) (A : Nat → KT) (w : World) (X : Bx3 w bx u0 u1 (.map (some b))) (MP : MapK w b n F) (hn : n ≤ 1000) (hF : FA F A m) :
    Calls Try.prog 53 #[.pointer (some ⟨bx, 0, none⟩)] w fun e w' => ∃ v : Value, e = .returned v ∧ w'.ownsRow w.heap.size 3 1 v m ((List.range m).map fun j => Value.int .i64 (A j).1) ∧ Below w.heap.size w w' := by
  obtain ⟨D, hown, hperm, hsz⟩ := MP.keys hF
  have hm : m ≤ 1000 := by have := hown.size_le; omega
  have HQ : Hid (∀ ss : List Int, ss.Perm (intKeys D) → ss.length = m ∧ (ss.mergeSort (fun x y => decide (x ≤ y))).map encZ = (List.range m).map fun j => Value.int .i64 (A j).1) := fun ss hs => by
    refine ⟨by have := (hs.trans hperm.symm).length_eq; simpa [nzs] using this, ?_⟩
    rw [sorted_nzs hF.1 hs hperm, nzs, List.map_map]
    rfl
  clear hperm hF
  refine (callsIn_wide (n := 6)).1 ?_
  have hbl := hown.lt
  have hseq : SeqGives Fence.wide 2 Try.prog 67 #[.pointer (some ⟨w.heap.size, 0, none⟩)] encZ (fun ss => ss.Perm (intKeys D)) (Maps.size D) (w.alloc (.cells #[.map (some b)] 70)) :=
    AnyZI.keys_gives (ρ := keysA_ren) { keysA with } Fence.wide _ trivial rfl (by omega) w.heap.size b n D _ (by simp) (by simp) (by
      obtain ⟨es, clock, hb, Ft, hs, hD⟩ := hown
      exact ⟨es, clock, (Below.heap_alloc _ _ b hbl).trans hb, Ft, hs, hD⟩)
  have cK : ∀ mb W, CallsIn Fence.wide 5 Try.prog 62 #[.map mb] W fun e w' => e = .returned (.func (.func 67) #[] #[.pointer (some ⟨W.heap.size, 0, none⟩)]) ∧ w' = W.alloc (.cells #[.map mb] 70) := fun mb W => AnyZI.keys_in keysA Fence.wide 5 trivial rfl mb W
  have cS := AnyZI.sorted_in sortedA Fence.wide 5 trivial trivial trivial trivial rfl (by omega) (sortsA _) (enters_of Try.func66 (by kernel_rfl) rfl) 67 #[.pointer (some ⟨w.heap.size, 0, none⟩)] trivial (enters_of Try.func67 (by kernel_rfl) rfl) _ _ (by rw [hsz]; unfold maxLen; omega) (by rw [hsz]; omega) _ hseq
  change CallsIn _ _ Try.prog 61 _ _ _ at cS
  have hfK : Fence.wide.fn 62 := trivial
  have hfS : Fence.wide.fn 61 := trivial
  obtain ⟨x0, x1, x2, x3, -, -, -⟩ := X
  clear MP hown hseq hsz
  refine callsIn_of_wp Try.func53 rfl trivial ?_ rfl
  simp only [Try.ntmps53, List.size_toArray, List.length_cons, List.length_nil, Nat.reduceAdd, Nat.reduceSub, Array.replicate_succ, Array.replicate_zero, List.push_toArray, List.append_toArray, List.nil_append, List.cons_append]
  gi_wp2_with (first
    | (gi_at_call 62; refine (cK _ _).mono ?_; rintro e w' ⟨rfl, rfl⟩)
    | (gi_at_call 61; refine cS.mono ?_; rintro e w' ⟨v, ss, rfl, hS, hrow, hnil, hb⟩))
  go_ret
  obtain ⟨e1, e2⟩ := HQ.out ss hS
  have hr := ownsRow_base_a hrow (show w.heap.size ≤ _ by simp)
  rw [e1, e2] at hr
  exact ⟨v, rfl, hr, ((Below.refl _ w).alloc (Nat.le_refl _) _).trans (hb.mono (by simp))⟩
end Go.Proofs.Ytgfhcilhibbooaa
namespace Go.Proofs.Ytgfhcilhibbooaa
open Go.RowKit
set_option linter.unusedVariables false
set_option maxHeartbeats 1000000 in
theorem implTab_ep (ep us : Int) (a : Option Addr) (n c : Nat) (M : Nat → KT) (w : World) (h : epB ep = false) :
    Calls Try.prog 41 #[.agg #[.int .i64 ep, .int .i64 us, .slice a n c]] w fun e w' => e = .returned (.bool (tabB ep us M n)) ∧ Below w.heap.size w w' := by
  have HB : Hid (tabB ep us M n = false) := tabB_ep h
  have A0 := Below.nw w (.cells #[.int .i64 ep, .int .i64 us, .slice a n c] 39)
  go_enter Try.func41, Try.ntmps41
  go_wp2_with fail
  refine (isEpoch_any _ _).mono ?_
  rintro e w' ⟨rfl, rfl⟩
  rw [h]
  go_wp2_with fail
  go_ret
  exact ⟨ret_bool HB.out.symm, A0⟩
set_option maxHeartbeats 1000000 in
theorem implTab_us (ep us : Int) (a : Option Addr) (n c : Nat) (M : Nat → KT) (w : World) (h : epB ep = true) (h1 : usB us = false) :
    Calls Try.prog 41 #[.agg #[.int .i64 ep, .int .i64 us, .slice a n c]] w fun e w' => e = .returned (.bool (tabB ep us M n)) ∧ Below w.heap.size w w' := by
  have HB : Hid (tabB ep us M n = false) := tabB_us h1
  have A0 := Below.nw w (.cells #[.int .i64 ep, .int .i64 us, .slice a n c] 39)
  by_cases hu : us < 0
  · clear h1
    go_enter Try.func41, Try.ntmps41
    go_wp2_with fail
    refine (isEpoch_any _ _).mono ?_
    rintro e w' ⟨rfl, rfl⟩
    rw [h]
    go_wp2_with fail
    go_ret
    exact ⟨ret_bool HB.out.symm, A0⟩
  · have hu2 : 1000 < us := by have := of_decide_eq_false h1; omega
    clear h1
    go_enter Try.func41, Try.ntmps41
    go_wp2_with fail
    refine (isEpoch_any _ _).mono ?_
    rintro e w' ⟨rfl, rfl⟩
    rw [h]
    go_wp2_with fail
    go_ret
    exact ⟨ret_bool HB.out.symm, A0⟩
set_option maxHeartbeats 1000000 in
theorem implTab_long (ep us : Int) (a : Option Addr) (n c : Nat) (M : Nat → KT) (w : World) (hm : n ≤ maxLen) (h : epB ep = true) (h1 : usB us = true) (hl : ¬ n ≤ 16) :
    Calls Try.prog 41 #[.agg #[.int .i64 ep, .int .i64 us, .slice a n c]] w fun e w' => e = .returned (.bool (tabB ep us M n)) ∧ Below w.heap.size w w' := by
  unfold maxLen at hm
  have HB : Hid (tabB ep us M n = false) := tabB_long hl
  have hi : (16 : Int) < (n : Int) := by omega
  have hu0 : ¬ us < 0 := by have := of_decide_eq_true h1; omega
  have hu1 : ¬ 1000 < us := by have := of_decide_eq_true h1; omega
  have A0 := Below.nw w (.cells #[.int .i64 ep, .int .i64 us, .slice a n c] 39)
  go_enter Try.func41, Try.ntmps41
  go_wp2_with fail
  refine (isEpoch_any _ _).mono ?_
  rintro e w' ⟨rfl, rfl⟩
  rw [h]
  go_wp2_with fail
  go_ret
  exact ⟨ret_bool HB.out.symm, A0⟩
set_option maxHeartbeats 1000000 in
theorem implTab_zero (ep us : Int) (a : Option Addr) (c : Nat) (M : Nat → KT) (w : World) (h : epB ep = true) (h1 : usB us = true) :
    Calls Try.prog 41 #[.agg #[.int .i64 ep, .int .i64 us, .slice a 0 c]] w fun e w' => e = .returned (.bool (tabB ep us M 0)) ∧ Below w.heap.size w w' := by
  have HB : Hid (tabB ep us M 0 = true) := tabB_ok h h1 (by omega) rfl
  have hu0 : ¬ us < 0 := by have := of_decide_eq_true h1; omega
  have hu1 : ¬ 1000 < us := by have := of_decide_eq_true h1; omega
  have A0 := Below.nw w (.cells #[.int .i64 ep, .int .i64 us, .slice a 0 c] 39)
  go_enter Try.func41, Try.ntmps41
  go_wp2_with fail
  refine (isEpoch_any _ _).mono ?_
  rintro e w' ⟨rfl, rfl⟩
  rw [h]
  go_wp2_with fail
  go_loopw [3, 32] (fun l i wr => i = .int .i64 0 ∧ w.alloc (.cells #[.int .i64 ep, .int .i64 us, .slice a 0 c] 39) = wr) (fun _ i _ => 0)
  case atStart => exact ⟨rfl, by first | rfl | trivial⟩
  case round =>
    obtain ⟨rfl, rfl⟩ := hrel
    go_wp2_with fail
    go_ret
    exact ⟨ret_bool HB.out.symm, A0⟩
set_option maxRecDepth 100000 in
set_option maxHeartbeats 8000000 in
theorem implTab_some (ep us : Int) (b off n c : Nat) (M : Nat → KT) (w : World) (h : epB ep = true) (h1 : usB us = true) (hn : n ≤ 16) (hf : Cs w b off (n * 4) (MFAsk M)) (hw : ∀ i, i < n → (Lit.int .i64 (M i).1).wf = true) :
    Calls Try.prog 41 #[.agg #[.int .i64 ep, .int .i64 us, .slice (some ⟨b, off, none⟩) n c]] w fun e w' => e = .returned (.bool (tabB ep us M n)) ∧ Below w.heap.size w w' := by
  have HE : Hid (epB ep = true) := h
  have HU : Hid (usB us = true) := h1
  have HW : Hid (∀ i, i < n → (Lit.int .i64 (M i).1).wf = true) := hw
  clear hw
  have hi : ¬ (16 : Int) < (n : Int) := by omega
  have hu0 : ¬ us < 0 := by have := of_decide_eq_true h1; omega
  have hu1 : ¬ 1000 < us := by have := of_decide_eq_true h1; omega
  have A0 := Below.nw w (.cells #[.int .i64 ep, .int .i64 us, .slice (some ⟨b, off, none⟩) n c] 39)
  have N := IB3.new w ep us (some ⟨b, off, none⟩) n c 39
  have HF := hf.below A0 hf.1
  have hb0 := HF.1
  clear hf
  go_enter Try.func41, Try.ntmps41
  go_wp2_with fail
  refine (isEpoch_any _ _).mono ?_
  rintro e w' ⟨rfl, rfl⟩
  rw [h]
  go_wp2_with fail
  clear h h1 hi hu0 hu1
  generalize w.alloc (.cells #[.int .i64 ep, .int .i64 us, .slice (some ⟨b, off, none⟩) n c] 39) = w0 at *
  go_loopw [3, 32] (fun l i wr => ∃ k : Nat, k ≤ n ∧ i = .int .i64 k ∧ l = .int .i64 (lastK M k) ∧ tOk ep us M k = true ∧ Below w0.heap.size w0 wr) (fun _ i _ => n - (intOf i).toNat)
  case atStart => exact ⟨0, Nat.zero_le _, rfl, rfl, rfl, Below.refl _ _⟩
  case round =>
    obtain ⟨k, hk, rfl, rfl, hok, hB⟩ := hrel
    have HOK : Hid (tOk ep us M k = true) := hok
    clear hok
    have hBw := A0.trans (hB.mono A0.size)
    by_cases hlt : k < n
    · obtain ⟨x0, x1, x2, x3, hM⟩ := tupAsk M k
      obtain ⟨c0, c1, c2, c3⟩ := (HF.below hB hb0).elAsk hlt hM
      obtain ⟨n9, n0, n1, n2⟩ := id (N.below hB)
      have hli : (k : Int) < (n : Int) := by omega
      have HM : Hid (M k = (x0, x1, x2, x3)) := hM
      have HEL : Hid (elB ep us M k = (npB x0 && decide (npE x0 = ep) && decide (npK x0 < us) && lsB M k && akB x1 x2 x3)) := by rw [Hid, elB, hM]
      have hbr : b < wr.heap.size := Nat.lt_of_lt_of_le hb0 hB.size
      have hwf : (Lit.int .i64 x0).wf = true := by have := HW.out k hlt; rw [hM] at this; exact this
      clear hM
      have A1 := Below.nw wr (.cells #[.int .i64 x0, .int .i64 x1, .int .i64 x2, .int .i64 x3] 43)
      have K := Bk4.new wr x0 x1 x2 x3 43
      have B1 := hBw.trans (A1.mono hBw.size)
      have B0 := hB.trans (A1.mono hB.size)
      have HNO : Hid (elB ep us M k = false → tabB ep us M n = false) := fun h => tabB_bad (tOk_no h n hlt)
      go_upto_region 7 with fail
      clear c0 c1 c2 c3 n9 n0 n1 n2
      have N1 := N.below B0
      generalize hbk : wr.heap.size = bk at *
      generalize wr.alloc (.cells #[.int .i64 x0, .int .i64 x1, .int .i64 x2, .int .i64 x3] 43) = w1 at *
      clear A1
      obtain ⟨n9, n0, n1, n2⟩ := id N1
      obtain ⟨k9, k0, k1, k2, k3⟩ := id K
      have HX : Hid (npK (M k).1 = npK x0) := show npK (M k).1 = npK x0 from by rw [HM.out]
      have HLL : Hid (npB x0 = true → npE x0 = ep → (lastK M k < npK x0 ↔ lsB M k = true)) := fun h1 h2 => by have := last_ls HOK.out (by rw [HM.out]; exact h1) (by rw [HM.out]; exact h2); rw [HX.out] at this; exact this
      go_wp2_with fail
      refine (implNonceParts_any _ _ hwf).mono ?_
      rintro e w' ⟨rfl, rfl⟩
      clear hwf
      cases g1 : npB x0
      · have HB' : Hid (tabB ep us M n = false) := HNO.out (by rw [HEL.out, g1]; rfl)
        go_wp2_with fail
        go_ret
        exact ⟨ret_bool HB'.out.symm, B1⟩
      · cases g2 : decide (npE x0 = ep)
        · have HB' : Hid (tabB ep us M n = false) := HNO.out (by rw [HEL.out, g2]; simp)
          have g2' := of_decide_eq_false g2
          go_wp2_with fail
          go_ret
          exact ⟨ret_bool HB'.out.symm, B1⟩
        · have g2' := of_decide_eq_true g2
          have HL2 := HLL.out g1 g2'
          by_cases g4 : npK x0 ≤ lastK M k
          · have HB' : Hid (tabB ep us M n = false) := HNO.out (by
              have : lsB M k = false := by
                cases q : lsB M k
                · rfl
                · exact absurd (HL2.2 q) (by omega)
              rw [HEL.out, this]; simp)
            clear HL2
            go_wp2_with fail
            go_ret
            exact ⟨ret_bool HB'.out.symm, B1⟩
          · have HLS : Hid (lsB M k = true) := HL2.1 (by omega)
            clear HL2
            cases g3 : decide (npK x0 < us)
            · have HB' : Hid (tabB ep us M n = false) := HNO.out (by rw [HEL.out, g3]; simp)
              have g3' : us ≤ npK x0 := by have := of_decide_eq_false g3; omega
              go_wp2_with fail
              go_ret
              exact ⟨ret_bool HB'.out.symm, B1⟩
            · have g3' : ¬ us ≤ npK x0 := by have := of_decide_eq_true g3; omega
              go_wp2_with fail
              refine (askOk_any _ _ _ _ _).mono ?_
              rintro e w2 ⟨rfl, hb⟩
              replace B0 := B0.trans (hb.mono B0.size)
              replace B1 := B1.trans (hb.mono B1.size)
              cases g5 : akB x1 x2 x3
              · have HB' : Hid (tabB ep us M n = false) := HNO.out (by rw [HEL.out, g5, Bool.and_false])
                go_wp2_with fail
                go_ret
                exact ⟨ret_bool HB'.out.symm, B1⟩
              · have HG : Hid (tOk ep us M (k + 1) = true) := by rw [Hid, tOk, HOK.out, HEL.out, g1, g2, g3, HLS.out, g5]; rfl
                go_wp2_with fail
                go_roundw
                case rel => exact ⟨k + 1, by omega, by go_num, by rw [lastK, HX.out], HG.out, B0⟩
                case measure => simp [intOf]; omega
    · have hkn : k = n := by omega
      subst hkn
      have hli : ¬ (k : Int) < (k : Int) := by omega
      have HB : Hid (tabB ep us M k = true) := tabB_ok HE.out HU.out hn HOK.out
      obtain ⟨n9, n0, n1, n2⟩ := id (N.below hB)
      go_wp2_with fail
      go_ret
      exact ⟨ret_bool HB.out.symm, hBw⟩
theorem implTab_any (ep us : Int) (a : Option Addr) (n c : Nat) (M : Nat → KT) (w : World) (hm : n ≤ maxLen) (hf : SrcC w a (n * 4) (MFAsk M)) (hw : ∀ i, i < n → (Lit.int .i64 (M i).1).wf = true) :
    Calls Try.prog 41 #[.agg #[.int .i64 ep, .int .i64 us, .slice a n c]] w fun e w' => e = .returned (.bool (tabB ep us M n)) ∧ Below w.heap.size w w' := by
  cases h : epB ep
  · exact implTab_ep ep us a n c M w h
  · cases h1 : usB us
    · exact implTab_us ep us a n c M w h h1
    · by_cases hl : n ≤ 16
      · rcases hf with h0 | ⟨b, off, rfl, hf⟩
        · have hn0 : n = 0 := by omega
          subst hn0
          exact implTab_zero ep us a c M w h h1
        · exact implTab_some ep us b off n c M w h h1 hl hf hw
      · exact implTab_long ep us a n c M w hm h h1 hl
end Go.Proofs.Ytgfhcilhibbooaa
