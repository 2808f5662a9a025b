/- What the check of bytes is, and the contract of spec.Check8. What a packed message is. The walk of FnOneBit. -/
import Derived.Lib.AppendStr
import Derived.Laws.IdiomStrings
import Derived.Deep.RegionHeld3
import Derived.Deep.DeepCutAuto
import Derived.Defers
import Derived.Recover
import Derived.Test.YtddjiamollfplaaGreatDoorMC3
import Derived.Test.YtddjiamollfplaaGreatDoorMC7
namespace Go.Proofs.YtddjiamollfplaaGreatDoor
open Go.RowKit
set_option linter.unusedVariables false
theorem mC (a b : Nat) (ha : a < 256) (hb : b < 256) : bits .xor .i64 (a : Int) (b : Int) = ((a ^^^ b : Nat) : Int) := by
 have e : bits .xor .i64 (a : Int) (b : Int) = IntKind.i64.wrap ((BitVec.ofInt 64 (a : Int) ^^^ BitVec.ofInt 64 (b : Int)).toNat : Int) := rfl
 have h1 : (BitVec.ofInt 64 (a : Int) ^^^ BitVec.ofInt 64 (b : Int)).toNat = a ^^^ b := by
  rw [BitVec.toNat_xor, BitVec.ofInt_natCast, BitVec.ofInt_natCast, BitVec.toNat_ofNat, BitVec.toNat_ofNat, Nat.mod_eq_of_lt (show a < 2 ^ 64 by omega), Nat.mod_eq_of_lt (show b < 2 ^ 64 by omega)]
 have h2 : a ^^^ b < 2 ^ 8 := Nat.xor_lt_two_pow (by omega) (by omega)
 rw [e, h1, Go.IntWalk.i64_in _ ⟨by omega, by omega⟩]
theorem jl {a b : Int} (a0 : 0 ≤ a) (a1 : a ≤ 255) (b0 : 0 ≤ b) (b1 : b ≤ 255) : 0 ≤ bits .xor .i64 a b ∧ bits .xor .i64 a b ≤ 255 := by
 obtain ⟨m, rfl⟩ := Int.eq_ofNat_of_zero_le a0
 obtain ⟨n, rfl⟩ := Int.eq_ofNat_of_zero_le b0
 rw [mC m n (by omega) (by omega)]
 have h2 : m ^^^ n < 2 ^ 8 := Nat.xor_lt_two_pow (by omega) (by omega)
 omega
def fQ (n : Int) : Int := if 255 < 2 * n then bits .xor .i64 (2 * n % 256) 7 else 2 * n
def cU : Nat → Int → Int
 | 0, n => n
 | k + 1, n => fQ (cU k n)
def chk (f : Nat → Int) : Nat → Int
 | 0 => 90
 | i + 1 => cU 8 (bits .xor .i64 (chk f i) (f i))
theorem lZ {n : Int} (h0 : 0 ≤ n) (h1 : n ≤ 255) : 0 ≤ fQ n ∧ fQ n ≤ 255 := by
 unfold fQ
 split
 ·exact jl (by omega) (by omega) (by omega) (by omega)
 ·omega
theorem dD {n : Int} (h0 : 0 ≤ n) (h1 : n ≤ 255) : ∀ k, 0 ≤ cU k n ∧ cU k n ≤ 255
 | 0 => ⟨h0, h1⟩
 | k + 1 => lZ (dD h0 h1 k).1 (dD h0 h1 k).2
theorem cz {f : Nat → Int} : ∀ {n : Nat}, (∀ i, i < n → 0 ≤ f i ∧ f i ≤ 255) → 0 ≤ chk f n ∧ chk f n ≤ 255
 | 0, _ => by simp [chk]
 | n + 1, h => by
  have a := cz (f := f) (n := n) (fun i hi => h i (by omega))
  have b := jl a.1 a.2 (h n (by omega)).1 (h n (by omega)).2
  exact dD b.1 b.2 8
theorem l6 {n : Int} (h : 255 < 2 * n) : fQ n = bits .xor .i64 (2 * n % 256) 7 := if_pos h
theorem l7 {n : Int} (h : ¬ 255 < 2 * n) : fQ n = 2 * n := if_neg h
set_option maxHeartbeats 2000000 in
theorem dY (b off n c : Nat) (f : Nat → Int) (w : World) (hn : n ≤ maxLen) (hf : fH w b off n f) (hr : ∀ i, i < n → 0 ≤ f i ∧ f i ≤ 255) :
 Calls Tryz.prog 100 #[.slice (some ⟨b, off, none⟩) n c] w fun e w' => e = .returned (.int .i64 (chk f n)) ∧ w = w' := by
 unfold maxLen at hn
 have HF : Hid (fH w b off n f) := hf
 have HG : Hid (∀ i, i < n → 0 ≤ f i ∧ f i ≤ 255) := hr
 clear hf hr
 go_enter Tryz.func100, Tryz.ntmps100
 go_wp2_with fail
 go_loopw [3, 4] (fun v i wr => ∃ k : Nat, k ≤ n ∧ i = .int .i64 k ∧ v = .int .i64 (chk f k) ∧ w = wr) (fun _ i _ => n - (intOf i).toNat)
 case atStart => exact ⟨0, Nat.zero_le _, rfl, rfl, rfl⟩
 case round =>
  obtain ⟨k, hk, rfl, rfl, rfl⟩ := hrel
  by_cases hlt : k < n
  ·have hli : (k : Int) < (n : Int) := by omega
   have c0 : w.cell? ⟨b, off + k, none⟩ = some (.int .u8 (f k)) := HF.out.2 k hlt
   have hcb := cz (f := f) (n := k) (fun i hi => HG.out i (by omega))
   have hfb := HG.out k hlt
   have hxb := jl hcb.1 hcb.2 hfb.1 hfb.2
   have HE : Hid (chk f (k + 1) = cU 8 (bits .xor .i64 (chk f k) (f k))) := rfl
   generalize chk f k = q at *
   generalize f k = z at *
   go_wp2_with fail
   have HB := dD hxb.1 hxb.2
   generalize bits .xor .i64 q z = m at *
   have HBH : Hid (∀ j, 0 ≤ cU j m ∧ cU j m ≤ 255) := HB
   clear HB
   go_loopw [3, 5] (fun v i wr => ∃ j : Nat, j ≤ 8 ∧ i = .int .i64 j ∧ v = .int .i64 (cU j m) ∧ w = wr) (fun _ i _ => 8 - (intOf i).toNat)
   case atStart => exact ⟨0, Nat.zero_le _, rfl, rfl, rfl⟩
   case round =>
    obtain ⟨j, hj, rfl, rfl, rfl⟩ := hrel
    by_cases hj8 : j < 8
    ·have hji : (j : Int) < 8 := by omega
     have hb := HBH.out j
     have HT : Hid (cU (j + 1) m = fQ (cU j m)) := rfl
     generalize cU j m = t at *
     have b0 := hb.1
     have b1 := hb.2
     clear hb
     by_cases hd : 255 < 2 * t
     ·have HD : Hid (fQ t = bits .xor .i64 (2 * t % 256) 7) := l6 hd
      go_wp2_with fail
      go_roundw
      case rel => exact ⟨j + 1, by omega, by go_num, by rw [HT.out, HD.out], by first | rfl | trivial⟩
      case measure => simp [intOf]; omega
     ·have HD : Hid (fQ t = 2 * t) := l7 hd
      go_wp2_with fail
      go_roundw
      case rel => exact ⟨j + 1, by omega, by go_num, by rw [HT.out, HD.out], by first | rfl | trivial⟩
      case measure => simp [intOf]; omega
    ·have hj8' : j = 8 := by omega
     subst hj8'
     go_wp2_with fail
     go_roundw
     case rel => exact ⟨k + 1, by omega, by go_num, by rw [HE.out], by first | rfl | trivial⟩
     case measure => simp [intOf]; omega
  ·have hkn : k = n := by omega
   subst hkn
   have hli : ¬ (k : Int) < (k : Int) := by omega
   go_wp2_with fail
   go_ret
   exact ⟨rfl, rfl⟩
set_option maxHeartbeats 400000 in
theorem dZ (a : Option Addr) (c : Nat) (w : World) :
 Calls Tryz.prog 100 #[.slice a 0 c] w fun e w' => e = .returned (.int .i64 90) ∧ w = w' := by
 go_enter Tryz.func100, Tryz.ntmps100
 go_wp2_with fail
 go_loopw [3, 4] (fun v i wr => i = .int .i64 0 ∧ v = .int .i64 90 ∧ w = wr) (fun _ i _ => 0)
 case atStart => exact ⟨rfl, rfl, by first | rfl | trivial⟩
 case round =>
  obtain ⟨rfl, rfl, rfl⟩ := hrel
  go_wp2_with fail
  go_ret
  exact ⟨rfl, rfl⟩
theorem aX (a : Option Addr) (n c : Nat) (f : Nat → Int) (w : World) (hn : n ≤ maxLen) (h : de w a n f) (hr : ∀ i, i < n → 0 ≤ f i ∧ f i ≤ 255) :
 Calls Tryz.prog 100 #[.slice a n c] w fun e w' => e = .returned (.int .i64 (chk f n)) ∧ w = w' := by
 rcases h with rfl | ⟨b, off, rfl, hp⟩
 ·exact dZ a c w
 ·exact dY b off n c f w hn hp hr
end Go.Proofs.YtddjiamollfplaaGreatDoor
namespace Go.Proofs.YtddjiamollfplaaGreatDoor
open Go.RowKit
set_option linter.unusedVariables false
def di (s : ByteArray) : List Int := s.data.toList.map fun b => (b.toNat : Int)
theorem eO (s : ByteArray) : (di s).length = s.size := by rw [di, List.length_map, Array.length_toList]; rfl
theorem jg (s : ByteArray) : Go.Lib.strCells s = bts (di s) := by rw [Go.Lib.strCells, bts, di, List.map_map]; rfl
theorem iA (s : ByteArray) : ∀ z ∈ di s, 0 ≤ z ∧ z ≤ 255 := by
 intro z hz
 simp [di] at hz
 obtain ⟨b, _, rfl⟩ := hz
 have := b.toNat_lt
 omega
def dQ (k fr tuu no lo hi sl : Int) (s : ByteArray) : List Int :=
 k :: aS fr ++ (if k = 3 then aS sl ++ aS s.size ++ di s else aS tuu ++ aS no) ++ (if k = 2 then aS (bg lo) ++ aS (bg hi) else [])
def bm (L : List Int) : List Int := L ++ [chk (fun i => L.getD i 0) L.length]
def bz (k fr tuu no lo hi sl : Int) (s : ByteArray) : List Int := bm (dQ k fr tuu no lo hi sl s)
def db (k fr tuu no lo hi sl : Int) (s : ByteArray) : List Int := if aD k fr tuu no lo hi sl s then bz k fr tuu no lo hi sl s else []
theorem bh (L M : List Int) : bts (L ++ M) = bts L ++ bts M := by simp [bts]
theorem bi (M : List Int) : ∀ u ∈ bts M, u.oneCell' = true := by
 intro u hu
 simp [bts] at hu
 obtain ⟨z, _, rfl⟩ := hu
 rfl
theorem bK {x : Int} (h : 0 ≤ x) : aS x ≠ [] := by
 rw [aS, if_neg (by omega)]
 intro e
 unfold cI at e
 split at e <;> simp at e
theorem aM {w : World} {base : Nat} {T : TypeId} {v : Value} {L : List Int} (h : w.ownsRow base T 1 v L.length (bts L)) (hne : L ≠ []) : ∃ g c, v = .slice (some ⟨g, 0, none⟩) L.length c := by
 rcases h.2 with ⟨_, h0⟩ | ⟨g, cap, cur, rfl, _⟩
 ·exact absurd (List.eq_nil_of_length_eq_zero h0) hne
 ·exact ⟨g, cap, rfl⟩
theorem aL {w : World} {base g c : Nat} {T : TypeId} {L : List Int} (h : w.ownsRow base T 1 (.slice (some ⟨g, 0, none⟩) L.length c) L.length (bts L)) : ∀ j u, (bts L)[j]? = some u → w.cell? ((⟨g, 0, none⟩ : Addr).add j) = some u := h.cells rfl
theorem cD (w : World) (base : Nat) (T : TypeId) (x : Int) (hb : base ≤ w.heap.size) : (w.alloc (.cells #[.int .u8 x] T)).ownsRow base T 1 (.slice (some ⟨w.heap.size, 0, none⟩) 1 1) [x].length (bts [x]) :=
 ⟨by simp [bts], .inr ⟨w.heap.size, 1, _, rfl, hb, heap_alloc_new w _, Nat.le_refl _, by simp [maxLen], by simp, by simp [bts]⟩⟩
theorem cY {w : World} {base base' : Nat} {e : TypeId} {size : Nat} {v : Value} {n : Nat} {xs : List Value} (h : w.ownsRow base e size v n xs) (hb : base' ≤ base) : w.ownsRow base' e size v n xs := by
 refine ⟨h.1, ?_⟩
 rcases h.2 with h | ⟨g, cap, cur, h1, h2, h3⟩
 ·exact .inl h
 ·exact .inr ⟨g, cap, cur, h1, by omega, h3⟩
theorem aN.drew {j : Nat} {w : World} {k fr tuu no lo hi sl : Int} {s : ByteArray} (h : aN w j k fr tuu no lo hi sl s) : aN w.drew j k fr tuu no lo hi sl s := h
theorem bv {L M : List Int} (h : ∀ y ∈ L, 0 ≤ y ∧ y ≤ 255) (h' : ∀ y ∈ M, 0 ≤ y ∧ y ≤ 255) : ∀ y ∈ L ++ M, 0 ≤ y ∧ y ≤ 255 := fun y hy => by
 rcases List.mem_append.1 hy with k | k
 ·exact h y k
 ·exact h' y k
theorem eF {L : List Int} (h : ∀ y ∈ L, 0 ≤ y ∧ y ≤ 255) : ∀ i, i < L.length → 0 ≤ L.getD i 0 ∧ L.getD i 0 ≤ 255 := fun i hi => h _ (by
 rw [List.getD_eq_getElem?_getD, List.getElem?_eq_getElem hi]; exact List.getElem_mem hi)
theorem b8 {k fr tuu no lo hi sl : Int} {s : ByteArray} (h : aD k fr tuu no lo hi sl s = true) : 0 ≤ fr ∧ fr ≤ 7 ∧ 1 ≤ k ∧ k ≤ 3 ∧ s.size ≤ 24 := by
 have hf : aJ fr = true := by
  cases e : aJ fr
  ·rw [gS e] at h; cases h
  ·rfl
 have hz : s.size ≤ 24 := Decidable.not_not.1 fun e => by rw [gT e] at h; cases h
 have hk : k = 1 ∨ k = 2 ∨ k = 3 := by
  unfold aD at h
  split at h
  ·omega
  ·split at h
   ·omega
   ·split at h
    ·omega
    ·cases h
 simp [aJ] at hf
 omega
theorem fC {k fr tuu no lo hi sl : Int} {s : ByteArray} (h : aD k fr tuu no lo hi sl s = true) (hk : k ≠ 3) : 0 ≤ tuu ∧ tuu ≤ 7 ∧ 0 ≤ no ∧ no ≤ 100000999 := by
 have ha : adB fr tuu no = true := by
  unfold aD at h
  split at h
  ·simp at h; exact h.1.1.1.1
  ·split at h
   ·simp at h; exact h.1.1.1
   ·first | (cases h; done) | (rw [if_neg hk] at h; cases h)
 simp [adB, aJ] at ha
 omega
theorem j9 {fr tuu no lo hi sl : Int} {s : ByteArray} (h : aD 3 fr tuu no lo hi sl s = true) : 0 ≤ sl ∧ sl ≤ 15 := by
 simp [aD] at h; omega
theorem gN (x : Int) : 0 ≤ bg x ∧ bg x ≤ 2000000000000 := by
 unfold bg
 split
 ·split <;> omega
 ·omega
theorem kg (w : World) (s : ByteArray) (cap : Nat) (T : TypeId) (fz : Nat × Nat) : ∀ j u, (bts (di s))[j]? = some u → (w.drew.alloc (.cells (bytesRow s cap) T fz)).cell? ((⟨w.heap.size, 0, none⟩ : Addr).add j) = some u := by
 intro j u hu
 have hj : j < s.data.size := by
  have := (List.getElem?_eq_some_iff.1 hu).1
  rw [aY, eO] at this
  exact this
 have e : (⟨w.heap.size, 0, none⟩ : Addr).add j = ⟨w.drew.heap.size, j, none⟩ := by
  unfold Addr.add
  split
  ·next h => subst h; rfl
  ·simp
 rw [e, World.cell?_alloc_mark, bytesRow_at s cap j hj]
 have : (bts (di s))[j]? = some (.int .u8 (s.data[j].toNat : Int)) := by simp [bts, di]; exact ⟨_, Array.getElem?_eq_getElem hj, rfl⟩
 rw [this] at hu
 exact hu
theorem len3 (A B C : List Int) : (A ++ B ++ C).length = (A ++ B).length + C.length := List.length_append
theorem bts3 (A B C : List Int) : bts (A ++ B ++ C) = bts (A ++ B) ++ bts C := bh _ _
theorem g9 (k fr tuu no lo hi sl : Int) (s : ByteArray) : (db k fr tuu no lo hi sl s).length ≤ 100 := by
 cases hm : aD k fr tuu no lo hi sl s
 ·simp [db, hm]
 ·have hk := (b8 hm).2.2.2.2
  have a := aP fr
  have b := aP tuu
  have c := aP no
  have d := aP sl
  have e := aP s.size
  have f := aP (bg lo)
  have g := aP (bg hi)
  have h := eO s
  unfold db bz bm dQ
  rw [if_pos hm]
  split <;> split <;> simp <;> omega
end Go.Proofs.YtddjiamollfplaaGreatDoor
namespace Go.Proofs.YtddjiamollfplaaGreatDoor
open Go.RowKit
set_option linter.unusedVariables false
theorem fE (k fr tu no lo hi sl : Int) (s : ByteArray) (hk : 1 ≤ k ∧ k ≤ 3) : ∀ z ∈ dQ k fr tu no lo hi sl s, 0 ≤ z ∧ z ≤ 255 := by
 intro z hz
 unfold dQ at hz
 rw [List.cons_append, List.cons_append] at hz
 rcases List.mem_cons.1 hz with rfl | hz
 ·omega
 rcases List.mem_append.1 hz with hz | hz
 ·rcases List.mem_append.1 hz with hz | hz
  ·exact aQ _ z hz
  ·split at hz
   ·rcases List.mem_append.1 hz with hz | hz
    ·rcases List.mem_append.1 hz with hz | hz
     ·exact aQ _ z hz
     ·exact aQ _ z hz
    ·exact iA _ z hz
   ·rcases List.mem_append.1 hz with hz | hz
    ·exact aQ _ z hz
    ·exact aQ _ z hz
 ·split at hz
  ·rcases List.mem_append.1 hz with hz | hz
   ·exact aQ _ z hz
   ·exact aQ _ z hz
  ·simp at hz
theorem ke (k fr tu no lo hi sl : Int) (s : ByteArray) (hk : 1 ≤ k ∧ k ≤ 3) : ∀ z ∈ bz k fr tu no lo hi sl s, 0 ≤ z ∧ z ≤ 255 := by
 intro z hz
 rcases List.mem_append.1 hz with hz | hz
 ·exact fE k fr tu no lo hi sl s hk z hz
 ·simp at hz
  rw [hz]
  exact cz (eF (fE k fr tu no lo hi sl s hk))
theorem fF (k fr tu no lo hi sl : Int) (s : ByteArray) : 2 ≤ (bz k fr tu no lo hi sl s).length := by
 simp [bz, bm, dQ]
 omega
theorem ll {k fr tu no lo hi sl : Int} {s : ByteArray} (h : aD k fr tu no lo hi sl s = true) : db k fr tu no lo hi sl s = bz k fr tu no lo hi sl s := by rw [db, h]; rfl
end Go.Proofs.YtddjiamollfplaaGreatDoor
