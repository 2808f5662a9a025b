/- Number forms: what the bytes of a number are; rows of bytes in memory. -/
import Derived.Test.YtddjiamollfplaaDoorW1
import Derived.Deep.OwnRows
import Derived.WalkKit
import Derived.WalkSpells
import Derived.WalkLawsBesides
import Derived.Deep.RegionHeld
namespace Go.Proofs.YtddjiamollfplaaDoor
open Go.RowKit
set_option linter.unusedVariables false
theorem or_i64 (a b : Nat) (ha : a < 9223372036854775808) (hb : b < 9223372036854775808) : bits .or .i64 (a : Int) (b : Int) = ((a ||| b : Nat) : Int) := by
  have e : bits .or .i64 (a : Int) (b : Int) = IntKind.i64.wrap ((BitVec.ofInt 64 (a : Int) ||| BitVec.ofInt 64 (b : Int)).toNat : Int) := rfl
  have h1 : (BitVec.ofInt 64 (a : Int) ||| BitVec.ofInt 64 (b : Int)).toNat = a ||| b := by
    rw [BitVec.toNat_or, BitVec.ofInt_natCast, BitVec.ofInt_natCast, BitVec.toNat_ofNat, BitVec.toNat_ofNat, Nat.mod_eq_of_lt (show a < 2 ^ 64 by omega), Nat.mod_eq_of_lt (show b < 2 ^ 64 by omega)]
  have h2 : a ||| b < 2 ^ 63 := Nat.or_lt_two_pow (by omega) (by omega)
  rw [e, h1, Go.IntWalk.i64_in _ ⟨by omega, by omega⟩]
theorem and127 (a : Nat) (ha : a < 9223372036854775808) : bits .and .i64 (a : Int) 127 = ((a % 128 : Nat) : Int) := by
  have e : bits .and .i64 (a : Int) 127 = IntKind.i64.wrap ((BitVec.ofInt 64 (a : Int) &&& BitVec.ofInt 64 127).toNat : Int) := rfl
  have h1 : (BitVec.ofInt 64 (a : Int) &&& BitVec.ofInt 64 127).toNat = a % 128 := by
    rw [BitVec.toNat_and, BitVec.ofInt_natCast, BitVec.toNat_ofNat, Nat.mod_eq_of_lt (show a < 2 ^ 64 by omega)]
    exact Nat.and_two_pow_sub_one_eq_mod a 7
  rw [e, h1, Go.IntWalk.i64_in _ ⟨by omega, by omega⟩]
theorem and127I (a : Int) (h0 : 0 ≤ a) (h1 : a ≤ 9223372036854775807) : bits .and .i64 a 127 = a % 128 := by
  obtain ⟨n, rfl⟩ := Int.eq_ofNat_of_zero_le h0
  rw [and127 n (by omega)]; omega
theorem or_join (a z k : Nat) (ha : a < 2 ^ k) (h : z * 2 ^ k + a < 9223372036854775808) : bits .or .i64 (a : Int) ((z * 2 ^ k : Nat) : Int) = ((a + z * 2 ^ k : Nat) : Int) := by
  rw [or_i64 a (z * 2 ^ k) (by omega) (by omega), Nat.or_comm, Nat.mul_comm z, ← Nat.two_pow_add_eq_or_of_lt ha, Nat.add_comm]
theorem or128 (a : Int) (h0 : 0 ≤ a) (h1 : a ≤ 127) : bits .or .i64 a 128 = a + 128 := by
  obtain ⟨n, rfl⟩ := Int.eq_ofNat_of_zero_le h0
  have := or_join n 1 7 (by omega) (by omega)
  simpa using this
theorem mask127 {c : Int} (h₀ : 0 ≤ c) (h₁ : c ≤ 255) : bits .and .u8 c 127 = c % 128 := bits_mask .u8 8 (by decide) wraps_u8 7 (by decide) c h₀ (by omega)
def putN : Nat → Int → List Int
  | 0, _ => []
  | k + 1, x => if 127 < x then (x % 128 + 128) :: putN k (x / 128) else [x]
def putL (x : Int) : List Int := if x < 0 then [] else putN 10 x
theorem putN_go {k : Nat} {x : Int} (h : 127 < x) : putN (k + 1) x = (x % 128 + 128) :: putN k (x / 128) := by rw [putN, if_pos h]
theorem putN_end {k : Nat} {x : Int} (h : ¬ 127 < x) : putN (k + 1) x = [x] := by rw [putN, if_neg h]
theorem putN_len : ∀ (k : Nat) (x : Int), (putN k x).length ≤ k
  | 0, _ => by simp [putN]
  | k + 1, x => by
    unfold putN
    split
    · have := putN_len k (x / 128); simp; omega
    · simp
theorem putN_rng : ∀ (k : Nat) (x : Int), 0 ≤ x → ∀ z ∈ putN k x, 0 ≤ z ∧ z ≤ 255
  | 0, _, _, z, hz => by simp [putN] at hz
  | k + 1, x, hx, z, hz => by
    unfold putN at hz
    split at hz
    · simp at hz
      rcases hz with rfl | hz
      · omega
      · exact putN_rng k (x / 128) (by omega) z hz
    · simp at hz; subst hz; omega
theorem putL_len (x : Int) : (putL x).length ≤ 10 := by unfold putL; split; simp; exact putN_len _ _
theorem putL_rng (x : Int) : ∀ z ∈ putL x, 0 ≤ z ∧ z ≤ 255 := by
  unfold putL
  split
  · intro z hz; simp at hz
  · exact putN_rng 10 x (by omega)
theorem div_pow {y : Int} {m : Nat} (h : y < 128 ^ (m + 1)) : y / 128 < 128 ^ m := by
  rw [Int.pow_succ] at h
  exact Int.ediv_lt_of_lt_mul (by omega) h
theorem infoByte : (Tryd.prog.info? 5).map (fun i => (i.zero, i.size, i.bytes)) = some (some (.int .u8 0), 1, 1) := by kernel_rfl
def bts (L : List Int) : List Value := L.map (Value.int .u8)
theorem bts_add (L : List Int) (z : Int) : bts (L ++ [z]) = bts L ++ [.int .u8 z] := by simp [bts]
theorem bts_len (L : List Int) : (bts L).length = L.length := by simp [bts]
theorem byte_at (w : World) (z : Int) (T : TypeId) (j : Nat) (u : Value) (h : [Value.int .u8 z][j]? = some u) : (w.alloc (.cells #[.int .u8 z] T)).cell? ((⟨w.heap.size, 0, none⟩ : Addr).add j) = some u := by
  match j, h with
  | 0, h => simp at h; subst h; simp [Addr.add]
def Byts (w : World) (b off n : Nat) (f : Nat → Int) : Prop := b < w.heap.size ∧ ∀ i, i < n → w.cell? ⟨b, off + i, none⟩ = some (.int .u8 (f i))
theorem Byts.below {w w' : World} {B b off n : Nat} {f : Nat → Int} (h : Byts w b off n f) (hb : Below B w w') (hB : b < B) : Byts w' b off n f :=
  ⟨Nat.lt_of_lt_of_le h.1 hb.size, fun i hi => by rw [hb.cell (p := ⟨b, off + i, none⟩) hB]; exact h.2 i hi⟩
def SrcB (w : World) (a : Option Addr) (n : Nat) (f : Nat → Int) : Prop := n = 0 ∨ ∃ b off, a = some ⟨b, off, none⟩ ∧ Byts w b off n f
theorem SrcB.below {w w' : World} {a : Option Addr} {n : Nat} {f : Nat → Int} (h : SrcB w a n f) (hb : Below w.heap.size w w') : SrcB w' a n f := by
  rcases h with h | ⟨b, off, h1, h2⟩
  · exact .inl h
  · exact .inr ⟨b, off, h1, h2.below hb h2.1⟩
theorem ownB_below {w w' : World} {base : Nat} {e : TypeId} {size : Nat} {v : Value} {n : Nat} {xs : List Value} (h : w.ownsRow base e size v n xs) (hb : Below w.heap.size w w') : w'.ownsRow base e size v n xs :=
  h.kept (row := none) ⟨hb.os, hb.tape, hb.output, hb.size, fun k hk _ => hb.block k hk⟩ (by
    cases hv : v.ownBlock with
    | none => exact .inl rfl
    | some g => exact .inr (by simp))
theorem grownB_below {w w' : World} {base : Nat} {e : TypeId} {size : Nat} {v : Value} {n : Nat} {xs : List Value} (h : w.ownsRow base e size v n xs) (hg : w.grownBy w' v.ownBlock) (hb : base ≤ w.heap.size) : Below base w w' :=
  ⟨hg.os, hg.tape, hg.output, hg.size, fun k hk => hg.block k (by omega) (fun he => by have := (h.lt k he.symm).1; omega)⟩
theorem ownB_src {w : World} {base : Nat} {T : TypeId} {v : Value} {L : List Int} (h : w.ownsRow base T 1 v L.length (bts L)) :
    ∃ a c, v = .slice a L.length c ∧ L.length ≤ c ∧ c ≤ maxLen ∧ SrcB w a L.length (fun i => L.getD i 0) := by
  rcases h.2 with ⟨rfl, h0⟩ | ⟨g, cap, cur, rfl, hb, hg, hc, hm, hs, ht⟩
  · exact ⟨none, 0, by rw [h0], by omega, by simp [maxLen], .inl h0⟩
  · refine ⟨_, cap, rfl, hc, hm, .inr ⟨g, 0, rfl, (Array.getElem?_eq_some_iff.1 hg).1, fun i hi => ?_⟩⟩
    have hu : (bts L)[i]? = some (.int .u8 (L.getD i 0)) := by simp [bts, hi]
    rw [← ht, List.getElem?_take, if_pos (by omega)] at hu
    simp [World.cell?, hg]
    simpa using hu
end Go.Proofs.YtddjiamollfplaaDoor
