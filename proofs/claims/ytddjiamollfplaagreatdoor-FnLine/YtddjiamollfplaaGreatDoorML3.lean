/- Number forms: what the bytes of a number are; rows of bytes in memory. Rows of structs in memory; the text of a mark. Contracts of PutNum. What the check of bytes is, and the contract of spec.Check8. -/
import Derived.Deep.OwnRows
import Derived.Deep.RegionHeld
import Derived.Laws.BytesArg
import Derived.Test.YtddjiamollfplaaGreatDoorML1
namespace Go.Proofs.YtddjiamollfplaaGreatDoor
open Go.RowKit
set_option linter.unusedVariables false
def putN : Nat → Int → List Int
 | 0, _ => []
 | k + 1, x => if 127 < x then (x % 128 + 128) :: putN k (x / 128) else [x]
def putL (x : Int) : List Int := if x < 0 then [] else putN 10 x
theorem putN_go {k : Nat} {x : Int} (h : 127 < x) : putN (k + 1) x = (x % 128 + 128) :: putN k (x / 128) := by rw [putN, if_pos h]
theorem putN_end {k : Nat} {x : Int} (h : ¬ 127 < x) : putN (k + 1) x = [x] := by rw [putN, if_neg h]
theorem putN_len : ∀ (k : Nat) (x : Int), (putN k x).length ≤ k
 | 0, _ => by simp [putN]
 | k + 1, x => by
  unfold putN
  split
  ·have := putN_len k (x / 128); simp; omega
  ·simp
theorem putN_rng : ∀ (k : Nat) (x : Int), 0 ≤ x → ∀ z ∈ putN k x, 0 ≤ z ∧ z ≤ 255
 | 0, _, _, z, hz => by simp [putN] at hz
 | k + 1, x, hx, z, hz => by
  unfold putN at hz
  split at hz
  ·simp at hz
   rcases hz with rfl | hz
   ·omega
   ·exact putN_rng k (x / 128) (by omega) z hz
  ·simp at hz; subst hz; omega
theorem putL_len (x : Int) : (putL x).length ≤ 10 := by unfold putL; split; simp; exact putN_len _ _
theorem putL_rng (x : Int) : ∀ z ∈ putL x, 0 ≤ z ∧ z ≤ 255 := by
 unfold putL
 split
 ·intro z hz; simp at hz
 ·exact putN_rng 10 x (by omega)
theorem div_pow {y : Int} {m : Nat} (h : y < 128 ^ (m + 1)) : y / 128 < 128 ^ m := by
 rw [Int.pow_succ] at h
 exact Int.ediv_lt_of_lt_mul (by omega) h
theorem infoByte : (Tryz.prog.info? 5).map (fun i => (i.zero, i.size, i.bytes)) = some (some (.int .u8 0), 1, 1) := by kernel_rfl
def bts (L : List Int) : List Value := L.map (Value.int .u8)
theorem bts_add (L : List Int) (z : Int) : bts (L ++ [z]) = bts L ++ [.int .u8 z] := by simp [bts]
theorem bts_len (L : List Int) : (bts L).length = L.length := by simp [bts]
theorem byte_at (w : World) (z : Int) (T : TypeId) (j : Nat) (u : Value) (h : [Value.int .u8 z][j]? = some u) : (w.alloc (.cells #[.int .u8 z] T)).cell? ((⟨w.heap.size, 0, none⟩ : Addr).add j) = some u := by
 match j, h with
 | 0, h => simp at h; subst h; simp [Addr.add]
def Byts (w : World) (b off n : Nat) (f : Nat → Int) : Prop := b < w.heap.size ∧ ∀ i, i < n → w.cell? ⟨b, off + i, none⟩ = some (.int .u8 (f i))
theorem Byts.below {w w' : World} {B b off n : Nat} {f : Nat → Int} (h : Byts w b off n f) (hb : Below B w w') (hB : b < B) : Byts w' b off n f :=
 ⟨Nat.lt_of_lt_of_le h.1 hb.size, fun i hi => by rw [hb.cell (p := ⟨b, off + i, none⟩) hB]; exact h.2 i hi⟩
def SrcB (w : World) (a : Option Addr) (n : Nat) (f : Nat → Int) : Prop := n = 0 ∨ ∃ b off, a = some ⟨b, off, none⟩ ∧ Byts w b off n f
theorem SrcB.below {w w' : World} {a : Option Addr} {n : Nat} {f : Nat → Int} (h : SrcB w a n f) (hb : Below w.heap.size w w') : SrcB w' a n f := by
 rcases h with h | ⟨b, off, h1, h2⟩
 ·exact .inl h
 ·exact .inr ⟨b, off, h1, h2.below hb h2.1⟩
theorem ownB_below {w w' : World} {base : Nat} {e : TypeId} {size : Nat} {v : Value} {n : Nat} {xs : List Value} (h : w.ownsRow base e size v n xs) (hb : Below w.heap.size w w') : w'.ownsRow base e size v n xs :=
 h.kept (row := none) ⟨hb.os, hb.tape, hb.output, hb.size, fun k hk _ => hb.block k hk⟩ (by
  cases hv : v.ownBlock with
  | none => exact .inl rfl
  | some g => exact .inr (by simp))
theorem grownB_below {w w' : World} {base : Nat} {e : TypeId} {size : Nat} {v : Value} {n : Nat} {xs : List Value} (h : w.ownsRow base e size v n xs) (hg : w.grownBy w' v.ownBlock) (hb : base ≤ w.heap.size) : Below base w w' :=
 ⟨hg.os, hg.tape, hg.output, hg.size, fun k hk => hg.block k (by omega) (fun he => by have := (h.lt k he.symm).1; omega)⟩
theorem ownB_src {w : World} {base : Nat} {T : TypeId} {v : Value} {L : List Int} (h : w.ownsRow base T 1 v L.length (bts L)) :
 ∃ a c, v = .slice a L.length c ∧ L.length ≤ c ∧ c ≤ maxLen ∧ SrcB w a L.length (fun i => L.getD i 0) := by
 rcases h.2 with ⟨rfl, h0⟩ | ⟨g, cap, cur, rfl, hb, hg, hc, hm, hs, ht⟩
 ·exact ⟨none, 0, by rw [h0], by omega, by simp [maxLen], .inl h0⟩
 ·refine ⟨_, cap, rfl, hc, hm, .inr ⟨g, 0, rfl, (Array.getElem?_eq_some_iff.1 hg).1, fun i hi => ?_⟩⟩
  have hu : (bts L)[i]? = some (.int .u8 (L.getD i 0)) := by simp [bts, hi]
  rw [← ht, List.getElem?_take, if_pos (by omega)] at hu
  simp [World.cell?, hg]
  simpa using hu
end Go.Proofs.YtddjiamollfplaaGreatDoor
namespace Go.Proofs.YtddjiamollfplaaGreatDoor
open Go.RowKit
set_option linter.unusedVariables false
theorem Below.nw (w : World) (o : Obj) : Below w.heap.size w (w.alloc o) := (Below.refl _ _).alloc (Nat.le_refl _) _
def Cs (w : World) (b off N : Nat) (F : Nat → Value) : Prop := b < w.heap.size ∧ ∀ j, j < N → w.cell? ⟨b, off + j, none⟩ = some (F j)
theorem Cs.below {w w' : World} {B b off N : Nat} {F : Nat → Value} (h : Cs w b off N F) (hb : Below B w w') (hB : b < B) : Cs w' b off N F :=
 ⟨Nat.lt_of_lt_of_le h.1 hb.size, fun j hj => by rw [hb.cell (p := ⟨b, off + j, none⟩) hB]; exact h.2 j hj⟩
theorem Cs.drew {w : World} {b off N : Nat} {F : Nat → Value} (h : Cs w b off N F) : Cs w.drew b off N F := h
theorem Cs.but {w w' : World} {p b off N : Nat} {F : Nat → Value} (h : Cs w b off N F) (hb : But p w w') (hp : b ≠ p) : Cs w' b off N F :=
 ⟨Nat.lt_of_lt_of_le h.1 hb.2.2.2.1, fun j hj => by rw [hb.cell h.1 hp]; exact h.2 j hj⟩
def SrcC (w : World) (a : Option Addr) (N : Nat) (F : Nat → Value) : Prop := N = 0 ∨ ∃ b off, a = some ⟨b, off, none⟩ ∧ Cs w b off N F
theorem SrcC.below {w w' : World} {a : Option Addr} {N : Nat} {F : Nat → Value} (h : SrcC w a N F) (hb : Below w.heap.size w w') : SrcC w' a N F := by
 rcases h with h | ⟨b, off, h1, h2⟩
 ·exact .inl h
 ·exact .inr ⟨b, off, h1, h2.below hb h2.1⟩
def RowF (w : World) (b : Nat) (T : TypeId) (N m : Nat) (F : Nat → Value) : Prop := ∃ g, w.rowIs b T N g ∧ ∀ j, j < m → g j = F j
theorem RowF.lt {w : World} {b N m : Nat} {T : TypeId} {F : Nat → Value} (h : RowF w b T N m F) : b < w.heap.size := by obtain ⟨g, hr, _⟩ := h; exact hr.lt
theorem RowF.below {w w' : World} {B b N m : Nat} {T : TypeId} {F : Nat → Value} (hb : Below B w w') (hB : b < B) (h : RowF w b T N m F) : RowF w' b T N m F := by
 obtain ⟨g, hr, hg⟩ := h
 exact ⟨g, hr.of_block (hb.block b hB), hg⟩
theorem RowF.below' {w w' : World} {b N m : Nat} {T : TypeId} {F : Nat → Value} (hb : Below w.heap.size w w') (h : RowF w b T N m F) : RowF w' b T N m F := RowF.below hb h.lt h
theorem RowF.zero {w : World} {b N m : Nat} {T : TypeId} {F : Nat → Value} (h : RowF w b T N m F) (G : Nat → Value) : RowF w b T N 0 G := by
 obtain ⟨g, hr, hg⟩ := h
 exact ⟨g, hr, fun j hj => absurd hj (Nat.not_lt_zero _)⟩
theorem RowF.facts {w : World} {b N m : Nat} {T : TypeId} {F : Nat → Value} (h : RowF w b T N m F) (j : Nat) (hj : j < N) : (∃ v, w.cell? ⟨b, j, none⟩ = some v) ∧ w.frozen? ⟨b, j, none⟩ = false := by
 obtain ⟨g, hr, hg⟩ := h
 exact ⟨⟨_, hr.cell hj⟩, hr.frozen _⟩
theorem RowF.put {w : World} {b N m : Nat} {T : TypeId} {F : Nat → Value} (h : RowF w b T N m F) (m' : Nat) (hm : m' = m + 1) {v : Value} (hv : F m = v) : RowF (w.setCell ⟨b, m, none⟩ v) b T N m' F := by
 obtain ⟨g, hr, hg⟩ := h
 refine ⟨_, hr.set _ _, fun j hj => ?_⟩
 by_cases e : j = m
 ·subst e; simp only [if_true]; exact hv.symm
 ·simp only [if_neg e]; exact hg j (by omega)
theorem RowF.setO {w : World} {b N m : Nat} {T : TypeId} {F : Nat → Value} (h : RowF w b T N m F) {k : Nat} (hk : k ≠ b) (o : Nat) (u : Value) : RowF (w.setCell ⟨k, o, none⟩ u) b T N m F := by
 obtain ⟨g, hr, hg⟩ := h
 exact ⟨g, hr.setOther (fun e => hk e.symm) u, hg⟩
theorem RowF.cs {w : World} {b N m : Nat} {T : TypeId} {F : Nat → Value} (h : RowF w b T N m F) (hm : m ≤ N) : Cs w b 0 m F := by
 obtain ⟨g, hr, hg⟩ := h
 exact ⟨hr.lt, fun j hj => by rw [Nat.zero_add, hr.cell (by omega), hg j hj]⟩
end Go.Proofs.YtddjiamollfplaaGreatDoor
namespace Go.Proofs.YtddjiamollfplaaGreatDoor
open Go.RowKit
set_option linter.unusedVariables false
set_option maxHeartbeats 4000000 in
theorem specPutNum_any (x : Int) (w : World) (hx : x ≤ 9223372036854775807) :
 Calls Tryz.prog 98 #[.int .i64 x] w fun e w' => ∃ v : Value, e = .returned v ∧ w'.ownsRow w.heap.size 5 1 v (putL x).length (bts (putL x)) ∧ Below w.heap.size w w' := by
 obtain ⟨i0, hi, hz0, hz1, hz2⟩ := info_parts infoByte
 by_cases hneg : x < 0
 ·have HP : Hid (putL x = []) := by rw [Hid, putL, if_pos hneg]
  have O0 : (w.alloc (.cells #[] 5)).ownsRow w.heap.size 5 1 (.slice (some ⟨w.heap.size, 0, none⟩) 0 0) 0 [] := World.ownsRow_made w #[] 0 (Nat.le_refl _) (by simp [maxLen]) (by simp)
  have B0 := (Below.refl w.heap.size w).alloc (Nat.le_refl _) (.cells #[] 5)
  go_enter Tryz.func98, Tryz.ntmps98
  go_wp2_with fail
  go_ret
  exact ⟨_, rfl, by rw [HP.out]; exact O0, B0⟩
 ·have HP : Hid (putL x = putN 10 x) := by rw [Hid, putL, if_neg hneg]
  have hx0 : 0 ≤ x := by omega
  have hp9 : x < 128 ^ 9 := by (have : (128 : Int) ^ 9 = 9223372036854775808 := by decide); omega
  have HP9 : Hid (x < 128 ^ 9) := hp9
  clear hp9
  have O0 : (w.alloc (.cells #[] 5)).ownsRow w.heap.size 5 1 (.slice (some ⟨w.heap.size, 0, none⟩) 0 0) 0 [] := World.ownsRow_made w #[] 0 (Nat.le_refl _) (by simp [maxLen]) (by simp)
  have B0 := (Below.refl w.heap.size w).alloc (Nat.le_refl _) (.cells #[] 5)
  go_enter Tryz.func98, Tryz.ntmps98
  go_wp2_with fail
  go_loopw [0, 3] (fun xv v wr => ∃ (m : Nat) (y : Int) (L : List Int), xv = .int .i64 y ∧ L.length + m = 9 ∧ 0 ≤ y ∧ y ≤ 9223372036854775807 ∧ y < 128 ^ m ∧ L ++ putN (m + 1) y = putN 10 x ∧ wr.ownsRow w.heap.size 5 1 v L.length (bts L) ∧ Below w.heap.size w wr) (fun xv _ _ => (intOf xv).toNat)
  case atStart => exact ⟨9, x, [], rfl, rfl, hx0, hx, HP9.out, rfl, O0, B0⟩
  case round =>
   obtain ⟨m, y, L, rfl, hlm, hy0, hy1, hym, hL, hown, hB⟩ := hrel
   have HY : Hid (y < 128 ^ m) := hym
   have HL : Hid (L ++ putN (m + 1) y = putN 10 x) := hL
   have hbs := hB.size
   clear hym hL O0 B0 HP9
   by_cases hlt : 127 < y
   ·obtain ⟨m', rfl⟩ : ∃ m', m = m' + 1 := by
     cases m with
     | zero => have := HY.out; simp at this; omega
     | succ m' => exact ⟨m', rfl⟩
    have hmod0 : 0 ≤ y % 128 := by omega
    have hmod1 : y % 128 ≤ 127 := by omega
    have hw : IntKind.u8.wrap (y % 128 + 128) = y % 128 + 128 := Go.IntWalk.u8_in _ ⟨by omega, by omega⟩
    have A1 := (Below.refl wr.heap.size wr).alloc (Nat.le_refl _) (.cells #[.int .u8 (y % 128 + 128)] 5)
    go_wp2_with (at_builtin; refine wpList_append_own _ rfl _ _ 22 rfl w.heap.size 5 i0 (.int .u8 0) 1 1 Tryz.underlying22 hi hz0 hz1 hz2 rfl (by decide) _ _ _ rfl (World.ownsRow.alloc hown _) ⟨wr.heap.size, 0, none⟩ 1 1 [.int .u8 (y % 128 + 128)] rfl rfl ?c1 ?c2 ?c3 ?c4 ?c5 ?_)
    case c1 => intro j u hj; exact byte_at wr _ 5 j u hj
    case c2 => intro u hu; simp at hu; subst hu; rfl
    case c3 => unfold maxLen; omega
    case c4 => omega
    case c5 => simp; omega
    ·intro v' w1 hown' hgrow _
     have G1 := grownB_below (World.ownsRow.alloc hown _) hgrow (by simp; omega)
     have B1 := (hB.trans (A1.mono hbs)).trans G1
     have R1 : w1.ownsRow w.heap.size 5 1 v' (L ++ [y % 128 + 128]).length (bts (L ++ [y % 128 + 128])) := by rw [bts_add]; simpa using hown'
     clear hown' hgrow G1 A1
     go_wp2_with fail
     go_roundw
     case rel => exact ⟨m', y / 128, L ++ [y % 128 + 128], by go_num, by simp; omega, by omega, by omega, div_pow HY.out, by rw [← HL.out, putN_go hlt]; simp, R1, B1⟩
     case measure => simp [intOf]; omega
   ·have hw : IntKind.u8.wrap y = y := Go.IntWalk.u8_in _ ⟨by omega, by omega⟩
    have HE : Hid (putL x = L ++ [y]) := by rw [Hid, HP.out, ← HL.out, putN_end hlt]
    have A1 := (Below.refl wr.heap.size wr).alloc (Nat.le_refl _) (.cells #[.int .u8 y] 5)
    go_wp2_with (at_builtin; refine wpList_append_own _ rfl _ _ 22 rfl w.heap.size 5 i0 (.int .u8 0) 1 1 Tryz.underlying22 hi hz0 hz1 hz2 rfl (by decide) _ _ _ rfl (World.ownsRow.alloc hown _) ⟨wr.heap.size, 0, none⟩ 1 1 [.int .u8 y] rfl rfl (fun j u hj => byte_at wr _ 5 j u hj) (by intro u hu; simp at hu; subst hu; rfl) (by unfold maxLen; omega) (by omega) (by simp; omega) ?_; intro v' w1 hown' hgrow _)
    have G1 := grownB_below (World.ownsRow.alloc hown _) hgrow (by simp; omega)
    have B1 := (hB.trans (A1.mono hbs)).trans G1
    have R1 : Hid (w1.ownsRow w.heap.size 5 1 v' (putL x).length (bts (putL x))) := by rw [HE.out, Hid, bts_add]; simpa using hown'
    clear hown' hgrow G1 A1
    go_wp2_with fail
    go_ret
    exact ⟨_, rfl, R1.out, B1⟩
end Go.Proofs.YtddjiamollfplaaGreatDoor
namespace Go.Proofs.YtddjiamollfplaaGreatDoor
open Go.RowKit
set_option linter.unusedVariables false
theorem xor_i64 (a b : Nat) (ha : a < 256) (hb : b < 256) : bits .xor .i64 (a : Int) (b : Int) = ((a ^^^ b : Nat) : Int) := by
 have e : bits .xor .i64 (a : Int) (b : Int) = IntKind.i64.wrap ((BitVec.ofInt 64 (a : Int) ^^^ BitVec.ofInt 64 (b : Int)).toNat : Int) := rfl
 have h1 : (BitVec.ofInt 64 (a : Int) ^^^ BitVec.ofInt 64 (b : Int)).toNat = a ^^^ b := by
  rw [BitVec.toNat_xor, BitVec.ofInt_natCast, BitVec.ofInt_natCast, BitVec.toNat_ofNat, BitVec.toNat_ofNat, Nat.mod_eq_of_lt (show a < 2 ^ 64 by omega), Nat.mod_eq_of_lt (show b < 2 ^ 64 by omega)]
 have h2 : a ^^^ b < 2 ^ 8 := Nat.xor_lt_two_pow (by omega) (by omega)
 rw [e, h1, Go.IntWalk.i64_in _ ⟨by omega, by omega⟩]
theorem xor_bd {a b : Int} (a0 : 0 ≤ a) (a1 : a ≤ 255) (b0 : 0 ≤ b) (b1 : b ≤ 255) : 0 ≤ bits .xor .i64 a b ∧ bits .xor .i64 a b ≤ 255 := by
 obtain ⟨m, rfl⟩ := Int.eq_ofNat_of_zero_le a0
 obtain ⟨n, rfl⟩ := Int.eq_ofNat_of_zero_le b0
 rw [xor_i64 m n (by omega) (by omega)]
 have h2 : m ^^^ n < 2 ^ 8 := Nat.xor_lt_two_pow (by omega) (by omega)
 omega
def dblI (n : Int) : Int := if 255 < 2 * n then bits .xor .i64 (2 * n % 256) 7 else 2 * n
def turnI : Nat → Int → Int
 | 0, n => n
 | k + 1, n => dblI (turnI k n)
def chk (f : Nat → Int) : Nat → Int
 | 0 => 90
 | i + 1 => turnI 8 (bits .xor .i64 (chk f i) (f i))
theorem dblI_bd {n : Int} (h0 : 0 ≤ n) (h1 : n ≤ 255) : 0 ≤ dblI n ∧ dblI n ≤ 255 := by
 unfold dblI
 split
 ·exact xor_bd (by omega) (by omega) (by omega) (by omega)
 ·omega
theorem turnI_bd {n : Int} (h0 : 0 ≤ n) (h1 : n ≤ 255) : ∀ k, 0 ≤ turnI k n ∧ turnI k n ≤ 255
 | 0 => ⟨h0, h1⟩
 | k + 1 => dblI_bd (turnI_bd h0 h1 k).1 (turnI_bd h0 h1 k).2
theorem chk_bd {f : Nat → Int} : ∀ {n : Nat}, (∀ i, i < n → 0 ≤ f i ∧ f i ≤ 255) → 0 ≤ chk f n ∧ chk f n ≤ 255
 | 0, _ => by simp [chk]
 | n + 1, h => by
  have a := chk_bd (f := f) (n := n) (fun i hi => h i (by omega))
  have b := xor_bd a.1 a.2 (h n (by omega)).1 (h n (by omega)).2
  exact turnI_bd b.1 b.2 8
theorem dblI_hi {n : Int} (h : 255 < 2 * n) : dblI n = bits .xor .i64 (2 * n % 256) 7 := if_pos h
theorem dblI_lo {n : Int} (h : ¬ 255 < 2 * n) : dblI n = 2 * n := if_neg h
set_option maxHeartbeats 2000000 in
theorem specCheck8_some (b off n c : Nat) (f : Nat → Int) (w : World) (hn : n ≤ maxLen) (hf : Byts w b off n f) (hr : ∀ i, i < n → 0 ≤ f i ∧ f i ≤ 255) :
 Calls Tryz.prog 100 #[.slice (some ⟨b, off, none⟩) n c] w fun e w' => e = .returned (.int .i64 (chk f n)) ∧ w = w' := by
 unfold maxLen at hn
 have HF : Hid (Byts w b off n f) := hf
 have HG : Hid (∀ i, i < n → 0 ≤ f i ∧ f i ≤ 255) := hr
 clear hf hr
 go_enter Tryz.func100, Tryz.ntmps100
 go_wp2_with fail
 go_loopw [3, 4] (fun v i wr => ∃ k : Nat, k ≤ n ∧ i = .int .i64 k ∧ v = .int .i64 (chk f k) ∧ w = wr) (fun _ i _ => n - (intOf i).toNat)
 case atStart => exact ⟨0, Nat.zero_le _, rfl, rfl, rfl⟩
 case round =>
  obtain ⟨k, hk, rfl, rfl, rfl⟩ := hrel
  by_cases hlt : k < n
  ·have hli : (k : Int) < (n : Int) := by omega
   have c0 : w.cell? ⟨b, off + k, none⟩ = some (.int .u8 (f k)) := HF.out.2 k hlt
   have hcb := chk_bd (f := f) (n := k) (fun i hi => HG.out i (by omega))
   have hfb := HG.out k hlt
   have hxb := xor_bd hcb.1 hcb.2 hfb.1 hfb.2
   have HE : Hid (chk f (k + 1) = turnI 8 (bits .xor .i64 (chk f k) (f k))) := rfl
   generalize chk f k = q at *
   generalize f k = z at *
   go_wp2_with fail
   have HB := turnI_bd hxb.1 hxb.2
   generalize bits .xor .i64 q z = m at *
   have HBH : Hid (∀ j, 0 ≤ turnI j m ∧ turnI j m ≤ 255) := HB
   clear HB
   go_loopw [3, 5] (fun v i wr => ∃ j : Nat, j ≤ 8 ∧ i = .int .i64 j ∧ v = .int .i64 (turnI j m) ∧ w = wr) (fun _ i _ => 8 - (intOf i).toNat)
   case atStart => exact ⟨0, Nat.zero_le _, rfl, rfl, rfl⟩
   case round =>
    obtain ⟨j, hj, rfl, rfl, rfl⟩ := hrel
    by_cases hj8 : j < 8
    ·have hji : (j : Int) < 8 := by omega
     have hb := HBH.out j
     have HT : Hid (turnI (j + 1) m = dblI (turnI j m)) := rfl
     generalize turnI j m = t at *
     have b0 := hb.1
     have b1 := hb.2
     clear hb
     by_cases hd : 255 < 2 * t
     ·have HD : Hid (dblI t = bits .xor .i64 (2 * t % 256) 7) := dblI_hi hd
      go_wp2_with fail
      go_roundw
      case rel => exact ⟨j + 1, by omega, by go_num, by rw [HT.out, HD.out], by first | rfl | trivial⟩
      case measure => simp [intOf]; omega
     ·have HD : Hid (dblI t = 2 * t) := dblI_lo hd
      go_wp2_with fail
      go_roundw
      case rel => exact ⟨j + 1, by omega, by go_num, by rw [HT.out, HD.out], by first | rfl | trivial⟩
      case measure => simp [intOf]; omega
    ·have hj8' : j = 8 := by omega
     subst hj8'
     go_wp2_with fail
     go_roundw
     case rel => exact ⟨k + 1, by omega, by go_num, by rw [HE.out], by first | rfl | trivial⟩
     case measure => simp [intOf]; omega
  ·have hkn : k = n := by omega
   subst hkn
   have hli : ¬ (k : Int) < (k : Int) := by omega
   go_wp2_with fail
   go_ret
   exact ⟨rfl, rfl⟩
set_option maxHeartbeats 400000 in
theorem specCheck8_zero (a : Option Addr) (c : Nat) (w : World) :
 Calls Tryz.prog 100 #[.slice a 0 c] w fun e w' => e = .returned (.int .i64 90) ∧ w = w' := by
 go_enter Tryz.func100, Tryz.ntmps100
 go_wp2_with fail
 go_loopw [3, 4] (fun v i wr => i = .int .i64 0 ∧ v = .int .i64 90 ∧ w = wr) (fun _ i _ => 0)
 case atStart => exact ⟨rfl, rfl, by first | rfl | trivial⟩
 case round =>
  obtain ⟨rfl, rfl, rfl⟩ := hrel
  go_wp2_with fail
  go_ret
  exact ⟨rfl, rfl⟩
theorem specCheck8_any (a : Option Addr) (n c : Nat) (f : Nat → Int) (w : World) (hn : n ≤ maxLen) (h : SrcB w a n f) (hr : ∀ i, i < n → 0 ≤ f i ∧ f i ≤ 255) :
 Calls Tryz.prog 100 #[.slice a n c] w fun e w' => e = .returned (.int .i64 (chk f n)) ∧ w = w' := by
 rcases h with rfl | ⟨b, off, rfl, hp⟩
 ·exact specCheck8_zero a c w
 ·exact specCheck8_some b off n c f w hn hp hr
end Go.Proofs.YtddjiamollfplaaGreatDoor
