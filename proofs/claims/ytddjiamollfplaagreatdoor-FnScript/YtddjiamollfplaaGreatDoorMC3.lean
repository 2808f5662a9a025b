/- Number forms: what the bytes of a number are; rows of bytes in memory. Rows of structs in memory; the text of a mark. Contracts of PutNum. -/
import Derived.Deep.OwnRows
import Derived.Deep.RegionHeld
import Derived.Laws.BytesArg
import Derived.Test.YtddjiamollfplaaGreatDoorMC1
namespace Go.Proofs.YtddjiamollfplaaGreatDoor
open Go.RowKit
set_option linter.unusedVariables false
def cI : Nat → Int → List Int
 | 0, _ => []
 | k + 1, x => if 127 < x then (x % 128 + 128) :: cI k (x / 128) else [x]
def aS (x : Int) : List Int := if x < 0 then [] else cI 10 x
theorem mv {k : Nat} {x : Int} (h : 127 < x) : cI (k + 1) x = (x % 128 + 128) :: cI k (x / 128) := by rw [cI, if_pos h]
theorem lw {k : Nat} {x : Int} (h : ¬ 127 < x) : cI (k + 1) x = [x] := by rw [cI, if_neg h]
theorem ia : ∀ (k : Nat) (x : Int), (cI k x).length ≤ k
 | 0, _ => by simp [cI]
 | k + 1, x => by
  unfold cI
  split
  ·have := ia k (x / 128); simp; omega
  ·simp
theorem ib : ∀ (k : Nat) (x : Int), 0 ≤ x → ∀ z ∈ cI k x, 0 ≤ z ∧ z ≤ 255
 | 0, _, _, z, hz => by simp [cI] at hz
 | k + 1, x, hx, z, hz => by
  unfold cI at hz
  split at hz
  ·simp at hz
   rcases hz with rfl | hz
   ·omega
   ·exact ib k (x / 128) (by omega) z hz
  ·simp at hz; subst hz; omega
theorem aP (x : Int) : (aS x).length ≤ 10 := by unfold aS; split; simp; exact ia _ _
theorem aQ (x : Int) : ∀ z ∈ aS x, 0 ≤ z ∧ z ≤ 255 := by
 unfold aS
 split
 ·intro z hz; simp at hz
 ·exact ib 10 x (by omega)
theorem l8 {y : Int} {m : Nat} (h : y < 128 ^ (m + 1)) : y / 128 < 128 ^ m := by
 rw [Int.pow_succ] at h
 exact Int.ediv_lt_of_lt_mul (by omega) h
theorem infoByte : (Tryz.prog.info? 5).map (fun i => (i.zero, i.size, i.bytes)) = some (some (.int .u8 0), 1, 1) := by kernel_rfl
def bts (L : List Int) : List Value := L.map (Value.int .u8)
theorem cu (L : List Int) (z : Int) : bts (L ++ [z]) = bts L ++ [.int .u8 z] := by simp [bts]
theorem aY (L : List Int) : (bts L).length = L.length := by simp [bts]
theorem bU (w : World) (z : Int) (T : TypeId) (j : Nat) (u : Value) (h : [Value.int .u8 z][j]? = some u) : (w.alloc (.cells #[.int .u8 z] T)).cell? ((⟨w.heap.size, 0, none⟩ : Addr).add j) = some u := by
 match j, h with
 | 0, h => simp at h; subst h; simp [Addr.add]
def fH (w : World) (b off n : Nat) (f : Nat → Int) : Prop := b < w.heap.size ∧ ∀ i, i < n → w.cell? ⟨b, off + i, none⟩ = some (.int .u8 (f i))
theorem fH.below {w w' : World} {B b off n : Nat} {f : Nat → Int} (h : fH w b off n f) (hb : Below B w w') (hB : b < B) : fH w' b off n f :=
 ⟨Nat.lt_of_lt_of_le h.1 hb.size, fun i hi => by rw [hb.cell (p := ⟨b, off + i, none⟩) hB]; exact h.2 i hi⟩
def de (w : World) (a : Option Addr) (n : Nat) (f : Nat → Int) : Prop := n = 0 ∨ ∃ b off, a = some ⟨b, off, none⟩ ∧ fH w b off n f
theorem de.below {w w' : World} {a : Option Addr} {n : Nat} {f : Nat → Int} (h : de w a n f) (hb : Below w.heap.size w w') : de w' a n f := by
 rcases h with h | ⟨b, off, h1, h2⟩
 ·exact .inl h
 ·exact .inr ⟨b, off, h1, h2.below hb h2.1⟩
theorem aK {w w' : World} {base : Nat} {e : TypeId} {size : Nat} {v : Value} {n : Nat} {xs : List Value} (h : w.ownsRow base e size v n xs) (hb : Below w.heap.size w w') : w'.ownsRow base e size v n xs :=
 h.kept (row := none) ⟨hb.os, hb.tape, hb.output, hb.size, fun k hk _ => hb.block k hk⟩ (by
  cases hv : v.ownBlock with
  | none => exact .inl rfl
  | some g => exact .inr (by simp))
theorem ap {w w' : World} {base : Nat} {e : TypeId} {size : Nat} {v : Value} {n : Nat} {xs : List Value} (h : w.ownsRow base e size v n xs) (hg : w.grownBy w' v.ownBlock) (hb : base ≤ w.heap.size) : Below base w w' :=
 ⟨hg.os, hg.tape, hg.output, hg.size, fun k hk => hg.block k (by omega) (fun he => by have := (h.lt k he.symm).1; omega)⟩
theorem cq {w : World} {base : Nat} {T : TypeId} {v : Value} {L : List Int} (h : w.ownsRow base T 1 v L.length (bts L)) :
 ∃ a c, v = .slice a L.length c ∧ L.length ≤ c ∧ c ≤ maxLen ∧ de w a L.length (fun i => L.getD i 0) := by
 rcases h.2 with ⟨rfl, h0⟩ | ⟨g, cap, cur, rfl, hb, hg, hc, hm, hs, ht⟩
 ·exact ⟨none, 0, by rw [h0], by omega, by simp [maxLen], .inl h0⟩
 ·refine ⟨_, cap, rfl, hc, hm, .inr ⟨g, 0, rfl, (Array.getElem?_eq_some_iff.1 hg).1, fun i hi => ?_⟩⟩
  have hu : (bts L)[i]? = some (.int .u8 (L.getD i 0)) := by simp [bts, hi]
  rw [← ht, List.getElem?_take, if_pos (by omega)] at hu
  simp [World.cell?, hg]
  simpa using hu
end Go.Proofs.YtddjiamollfplaaGreatDoor
namespace Go.Proofs.YtddjiamollfplaaGreatDoor
open Go.RowKit
set_option linter.unusedVariables false
theorem Below.nw (w : World) (o : Obj) : Below w.heap.size w (w.alloc o) := (Below.refl _ _).alloc (Nat.le_refl _) _
def Cs (w : World) (b off N : Nat) (F : Nat → Value) : Prop := b < w.heap.size ∧ ∀ j, j < N → w.cell? ⟨b, off + j, none⟩ = some (F j)
theorem Cs.below {w w' : World} {B b off N : Nat} {F : Nat → Value} (h : Cs w b off N F) (hb : Below B w w') (hB : b < B) : Cs w' b off N F :=
 ⟨Nat.lt_of_lt_of_le h.1 hb.size, fun j hj => by rw [hb.cell (p := ⟨b, off + j, none⟩) hB]; exact h.2 j hj⟩
theorem Cs.drew {w : World} {b off N : Nat} {F : Nat → Value} (h : Cs w b off N F) : Cs w.drew b off N F := h
theorem Cs.but {w w' : World} {p b off N : Nat} {F : Nat → Value} (h : Cs w b off N F) (hb : But p w w') (hp : b ≠ p) : Cs w' b off N F :=
 ⟨Nat.lt_of_lt_of_le h.1 hb.2.2.2.1, fun j hj => by rw [hb.cell h.1 hp]; exact h.2 j hj⟩
def ci (w : World) (a : Option Addr) (N : Nat) (F : Nat → Value) : Prop := N = 0 ∨ ∃ b off, a = some ⟨b, off, none⟩ ∧ Cs w b off N F
theorem ci.below {w w' : World} {a : Option Addr} {N : Nat} {F : Nat → Value} (h : ci w a N F) (hb : Below w.heap.size w w') : ci w' a N F := by
 rcases h with h | ⟨b, off, h1, h2⟩
 ·exact .inl h
 ·exact .inr ⟨b, off, h1, h2.below hb h2.1⟩
def bA (w : World) (b : Nat) (T : TypeId) (N m : Nat) (F : Nat → Value) : Prop := ∃ g, w.rowIs b T N g ∧ ∀ j, j < m → g j = F j
theorem bA.lt {w : World} {b N m : Nat} {T : TypeId} {F : Nat → Value} (h : bA w b T N m F) : b < w.heap.size := by obtain ⟨g, hr, _⟩ := h; exact hr.lt
theorem bA.below {w w' : World} {B b N m : Nat} {T : TypeId} {F : Nat → Value} (hb : Below B w w') (hB : b < B) (h : bA w b T N m F) : bA w' b T N m F := by
 obtain ⟨g, hr, hg⟩ := h
 exact ⟨g, hr.of_block (hb.block b hB), hg⟩
theorem bA.below' {w w' : World} {b N m : Nat} {T : TypeId} {F : Nat → Value} (hb : Below w.heap.size w w') (h : bA w b T N m F) : bA w' b T N m F := bA.below hb h.lt h
theorem bA.zero {w : World} {b N m : Nat} {T : TypeId} {F : Nat → Value} (h : bA w b T N m F) (G : Nat → Value) : bA w b T N 0 G := by
 obtain ⟨g, hr, hg⟩ := h
 exact ⟨g, hr, fun j hj => absurd hj (Nat.not_lt_zero _)⟩
theorem bA.facts {w : World} {b N m : Nat} {T : TypeId} {F : Nat → Value} (h : bA w b T N m F) (j : Nat) (hj : j < N) : (∃ v, w.cell? ⟨b, j, none⟩ = some v) ∧ w.frozen? ⟨b, j, none⟩ = false := by
 obtain ⟨g, hr, hg⟩ := h
 exact ⟨⟨_, hr.cell hj⟩, hr.frozen _⟩
theorem bA.put {w : World} {b N m : Nat} {T : TypeId} {F : Nat → Value} (h : bA w b T N m F) (m' : Nat) (hm : m' = m + 1) {v : Value} (hv : F m = v) : bA (w.setCell ⟨b, m, none⟩ v) b T N m' F := by
 obtain ⟨g, hr, hg⟩ := h
 refine ⟨_, hr.set _ _, fun j hj => ?_⟩
 by_cases e : j = m
 ·subst e; simp only [if_true]; exact hv.symm
 ·simp only [if_neg e]; exact hg j (by omega)
theorem bA.setO {w : World} {b N m : Nat} {T : TypeId} {F : Nat → Value} (h : bA w b T N m F) {k : Nat} (hk : k ≠ b) (o : Nat) (u : Value) : bA (w.setCell ⟨k, o, none⟩ u) b T N m F := by
 obtain ⟨g, hr, hg⟩ := h
 exact ⟨g, hr.setOther (fun e => hk e.symm) u, hg⟩
theorem bA.cs {w : World} {b N m : Nat} {T : TypeId} {F : Nat → Value} (h : bA w b T N m F) (hm : m ≤ N) : Cs w b 0 m F := by
 obtain ⟨g, hr, hg⟩ := h
 exact ⟨hr.lt, fun j hj => by rw [Nat.zero_add, hr.cell (by omega), hg j hj]⟩
end Go.Proofs.YtddjiamollfplaaGreatDoor
namespace Go.Proofs.YtddjiamollfplaaGreatDoor
open Go.RowKit
set_option linter.unusedVariables false
set_option maxHeartbeats 4000000 in
theorem aF (x : Int) (w : World) (hx : x ≤ 9223372036854775807) :
 Calls Tryz.prog 98 #[.int .i64 x] w fun e w' => ∃ v : Value, e = .returned v ∧ w'.ownsRow w.heap.size 5 1 v (aS x).length (bts (aS x)) ∧ Below w.heap.size w w' := by
 obtain ⟨i0, hi, hz0, hz1, hz2⟩ := info_parts infoByte
 by_cases hneg : x < 0
 ·have HP : Hid (aS x = []) := by rw [Hid, aS, if_pos hneg]
  have O0 : (w.alloc (.cells #[] 5)).ownsRow w.heap.size 5 1 (.slice (some ⟨w.heap.size, 0, none⟩) 0 0) 0 [] := World.ownsRow_made w #[] 0 (Nat.le_refl _) (by simp [maxLen]) (by simp)
  have B0 := (Below.refl w.heap.size w).alloc (Nat.le_refl _) (.cells #[] 5)
  go_enter Tryz.func98, Tryz.ntmps98
  go_wp2_with fail
  go_ret
  exact ⟨_, rfl, by rw [HP.out]; exact O0, B0⟩
 ·have HP : Hid (aS x = cI 10 x) := by rw [Hid, aS, if_neg hneg]
  have hx0 : 0 ≤ x := by omega
  have hp9 : x < 128 ^ 9 := by (have : (128 : Int) ^ 9 = 9223372036854775808 := by decide); omega
  have HP9 : Hid (x < 128 ^ 9) := hp9
  clear hp9
  have O0 : (w.alloc (.cells #[] 5)).ownsRow w.heap.size 5 1 (.slice (some ⟨w.heap.size, 0, none⟩) 0 0) 0 [] := World.ownsRow_made w #[] 0 (Nat.le_refl _) (by simp [maxLen]) (by simp)
  have B0 := (Below.refl w.heap.size w).alloc (Nat.le_refl _) (.cells #[] 5)
  go_enter Tryz.func98, Tryz.ntmps98
  go_wp2_with fail
  go_loopw [0, 3] (fun xv v wr => ∃ (m : Nat) (y : Int) (L : List Int), xv = .int .i64 y ∧ L.length + m = 9 ∧ 0 ≤ y ∧ y ≤ 9223372036854775807 ∧ y < 128 ^ m ∧ L ++ cI (m + 1) y = cI 10 x ∧ wr.ownsRow w.heap.size 5 1 v L.length (bts L) ∧ Below w.heap.size w wr) (fun xv _ _ => (intOf xv).toNat)
  case atStart => exact ⟨9, x, [], rfl, rfl, hx0, hx, HP9.out, rfl, O0, B0⟩
  case round =>
   obtain ⟨m, y, L, rfl, hlm, hy0, hy1, hym, hL, hown, hB⟩ := hrel
   have HY : Hid (y < 128 ^ m) := hym
   have HL : Hid (L ++ cI (m + 1) y = cI 10 x) := hL
   have hbs := hB.size
   clear hym hL O0 B0 HP9
   by_cases hlt : 127 < y
   ·obtain ⟨m', rfl⟩ : ∃ m', m = m' + 1 := by
     cases m with
     | zero => have := HY.out; simp at this; omega
     | succ m' => exact ⟨m', rfl⟩
    have hmod0 : 0 ≤ y % 128 := by omega
    have hmod1 : y % 128 ≤ 127 := by omega
    have hw : IntKind.u8.wrap (y % 128 + 128) = y % 128 + 128 := Go.IntWalk.u8_in _ ⟨by omega, by omega⟩
    have A1 := (Below.refl wr.heap.size wr).alloc (Nat.le_refl _) (.cells #[.int .u8 (y % 128 + 128)] 5)
    go_wp2_with (at_builtin; refine wpList_append_own _ rfl _ _ 22 rfl w.heap.size 5 i0 (.int .u8 0) 1 1 Tryz.underlying22 hi hz0 hz1 hz2 rfl (by decide) _ _ _ rfl (World.ownsRow.alloc hown _) ⟨wr.heap.size, 0, none⟩ 1 1 [.int .u8 (y % 128 + 128)] rfl rfl ?c1 ?c2 ?c3 ?c4 ?c5 ?_)
    case c1 => intro j u hj; exact bU wr _ 5 j u hj
    case c2 => intro u hu; simp at hu; subst hu; rfl
    case c3 => unfold maxLen; omega
    case c4 => omega
    case c5 => simp; omega
    ·intro v' w1 hown' hgrow _
     have G1 := ap (World.ownsRow.alloc hown _) hgrow (by simp; omega)
     have B1 := (hB.trans (A1.mono hbs)).trans G1
     have R1 : w1.ownsRow w.heap.size 5 1 v' (L ++ [y % 128 + 128]).length (bts (L ++ [y % 128 + 128])) := by rw [cu]; simpa using hown'
     clear hown' hgrow G1 A1
     go_wp2_with fail
     go_roundw
     case rel => exact ⟨m', y / 128, L ++ [y % 128 + 128], by go_num, by simp; omega, by omega, by omega, l8 HY.out, by rw [← HL.out, mv hlt]; simp, R1, B1⟩
     case measure => simp [intOf]; omega
   ·have hw : IntKind.u8.wrap y = y := Go.IntWalk.u8_in _ ⟨by omega, by omega⟩
    have HE : Hid (aS x = L ++ [y]) := by rw [Hid, HP.out, ← HL.out, lw hlt]
    have A1 := (Below.refl wr.heap.size wr).alloc (Nat.le_refl _) (.cells #[.int .u8 y] 5)
    go_wp2_with (at_builtin; refine wpList_append_own _ rfl _ _ 22 rfl w.heap.size 5 i0 (.int .u8 0) 1 1 Tryz.underlying22 hi hz0 hz1 hz2 rfl (by decide) _ _ _ rfl (World.ownsRow.alloc hown _) ⟨wr.heap.size, 0, none⟩ 1 1 [.int .u8 y] rfl rfl (fun j u hj => bU wr _ 5 j u hj) (by intro u hu; simp at hu; subst hu; rfl) (by unfold maxLen; omega) (by omega) (by simp; omega) ?_; intro v' w1 hown' hgrow _)
    have G1 := ap (World.ownsRow.alloc hown _) hgrow (by simp; omega)
    have B1 := (hB.trans (A1.mono hbs)).trans G1
    have R1 : Hid (w1.ownsRow w.heap.size 5 1 v' (aS x).length (bts (aS x))) := by rw [HE.out, Hid, cu]; simpa using hown'
    clear hown' hgrow G1 A1
    go_wp2_with fail
    go_ret
    exact ⟨_, rfl, R1.out, B1⟩
end Go.Proofs.YtddjiamollfplaaGreatDoor
