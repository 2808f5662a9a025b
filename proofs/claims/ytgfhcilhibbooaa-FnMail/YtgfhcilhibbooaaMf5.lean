/- What the draws leave: times, intervals, the new cursor. What the draws leave: times, intervals, the new cursor. A struct of two ints in a block: what keeps it. Contracts of the helpers of chapter 1 (told intervals, least and greatest, meet and join). What the draw of a list of intervals leaves: a row of pairs in memory of its own. What the draws of chapter 2 leave: a drift, a count. What the draws of numbers of chapter 4 leave. The contract of spec.MsgOk. The walk of the exact law of MsgOk. Contracts of PutNum. What the laws make of bytes, and whether two rows of them are the same. What the check of bytes is, and the contract of spec.Check8. What a packed message is. What the draw of a message of chapter 4 leaves: some text. -/
import Derived.Test.YtgfhcilhibbooaaMf1
import Derived.WalkKit
import Derived.WalkSpells
import Derived.WalkLawsBesides
import Derived.Deep.QuietTactic
import Derived.BigQuiet
import Derived.Deep.RegionHeld
import Derived.Lib.AppendStr
import Derived.Laws.IdiomStrings
import Derived.Laws.BytesArg
namespace Go.Proofs.Ytgfhcilhibbooaa
open Go.RowKit
set_option linter.unusedVariables false
theorem pickLit (B p : Nat) (w : World) (L : List Int) (hcur : CurOk w B p) (h0 : 0 < L.length) (h1 : L.length ≤ 100) :
    Calls Try.prog 48 #[.pointer (some ⟨p, 0, none⟩), .slice (some ⟨w.heap.size, 0, none⟩) L.length L.length] (w.alloc (.cells (L.map (Value.int .i64)).toArray 3)) fun e w' => ∃ v : Int, e = .returned (.int .i64 v) ∧ CurOk w' B p ∧ But p w w' := by
  have hb : Below w.heap.size w (w.alloc (.cells (L.map (Value.int .i64)).toArray 3)) := (Below.refl _ _).alloc (Nat.le_refl _) _
  have hl := hcur.lt
  refine (l1PickInt_any B p w.heap.size 0 L.length L.length _ (hcur.below hb) h0 h1 (by simp) (by omega) (fun j hj => ⟨L[j], by simp [hj]⟩)).mono ?_
  rintro e w' ⟨j, v, hj, _, rfl, hc, hw⟩
  exact ⟨v, rfl, hc, (But.of_below hb).trans hw⟩
def imnD (x y : Int) : Int := if x < y then x else y
theorem CurOk.setOther {w : World} {B p : Nat} (h : CurOk w B p) {k : Nat} (hk : k ≠ p) (hB : B ≤ k) (o : Nat) (u : Value) : CurOk (w.setCell ⟨k, o, none⟩ u) B p := by
  obtain ⟨a, n, c, i, hh, h0, h1, h2, f0, f1, f2, hi, hn, hc, hBp, hp⟩ := h
  have hne : ∀ q, (⟨k, o, none⟩ : Addr) ≠ ⟨p, q, none⟩ := fun q e => hk (congrArg Addr.block e)
  refine ⟨a, n, c, i, hh, ?_, ?_, ?_, by simpa using f0, by simpa using f1, by simpa using f2, hi, hn, hc.below ((Below.refl _ _).setCell hB _), hBp, by simpa using hp⟩
  · rw [World.cell?_setCell_other _ _ _ _ (hne _)]; exact h0
  · rw [World.cell?_setCell_other _ _ _ _ (hne _)]; exact h1
  · rw [World.cell?_setCell_other _ _ _ _ (hne _)]; exact h2
theorem But.setNew {p : Nat} {a w : World} (h : But p a w) {k : Nat} (hk : a.heap.size ≤ k) (o : Nat) (u : Value) : But p a (w.setCell ⟨k, o, none⟩ u) :=
  ⟨h.1, h.2.1, h.2.2.1, by rw [World.size_setCell]; exact h.2.2.2.1, fun j hj hp => (Below.heap_setCell w ⟨k, o, none⟩ u j (by simp; omega)).trans (h.2.2.2.2 j hj hp)⟩
theorem But.alloc {p : Nat} {a w : World} (h : But p a w) (o : Obj) : But p a (w.alloc o) :=
  h.trans (But.of_below ((Below.refl _ _).alloc (Nat.le_refl _) _))
end Go.Proofs.Ytgfhcilhibbooaa
namespace Go.Proofs.Ytgfhcilhibbooaa
open Go.RowKit
set_option linter.unusedVariables false
theorem curNew (w : World) (a : Option Addr) (n c : Nat) (h : Int) (T : TypeId) (hn : n ≤ 1048576) (hcode : CodeB w w.heap.size a n) : CurOk (w.alloc (.cells #[.slice a n c, .int .i64 0, .int .i64 h] T)) w.heap.size w.heap.size :=
  ⟨a, n, c, 0, h, by simp, by simp, by simp, by simp, by simp, by simp, Nat.zero_le _, hn, hcode.below ((Below.refl _ _).alloc (Nat.le_refl _) _), Nat.le_refl _, by simp⟩
set_option maxHeartbeats 1000000 in
theorem l1New_any (a : Option Addr) (n c : Nat) (w : World) (hn : n ≤ 1048576) (hcode : CodeB w w.heap.size a n) :
    Calls Try.prog 31 #[.slice a n c] w fun e w' => ∃ p, e = .returned (.pointer (some ⟨p, 0, none⟩)) ∧ CurOk w' w.heap.size p ∧ Below w.heap.size w w' := by
  have HC : Hid (CodeB w w.heap.size a n) := hcode
  clear hcode
  go_enter Try.func31, Try.ntmps31
  go_wp2_with fail
  go_loop [3, 4] (fun hv i => ∃ k : Nat, ∃ h : Int, k ≤ n ∧ i = .int .i64 k ∧ hv = .int .i64 h) (fun _ i => n - (intOf i).toNat)
  case atStart => exact ⟨0, _, Nat.zero_le _, rfl, rfl⟩
  case round =>
    obtain ⟨k, h, hk, rfl, rfl⟩ := hrel
    by_cases hlt : k < n
    · have hli : (k : Int) < (n : Int) := by omega
      by_cases h4 : (k : Int) < 4000
      · rcases HC.out with h0 | ⟨b, off, rfl, hb, hz⟩
        · omega
        · obtain ⟨z, hz, z0, z1⟩ := hz k hlt
          go_wp2_with fail
          go_round
          case rel => exact ⟨k + 1, _, by omega, by go_num, rfl⟩
          case measure => simp [intOf]; omega
      · have hd : decide ((k : Int) < 4000) = false := by simp; omega
        go_wp2_with fail
        go_ret
        exact ⟨_, rfl, curNew _ _ _ _ _ _ hn HC.out, (Below.refl _ _).alloc (Nat.le_refl _) _⟩
    · have hd : decide ((k : Int) < (n : Int)) = false := by simp; omega
      go_wp2_with fail
      go_ret
      exact ⟨_, rfl, curNew _ _ _ _ _ _ hn HC.out, (Below.refl _ _).alloc (Nat.le_refl _) _⟩
end Go.Proofs.Ytgfhcilhibbooaa
namespace Go.Proofs.Ytgfhcilhibbooaa
open Go.RowKit
set_option linter.unusedVariables false
theorem CurOk.drew {w : World} {B p : Nat} (h : CurOk w B p) : CurOk w.drew B p := h
theorem But.drew {p : Nat} {a w : World} (h : But p a w) : But p a w.drew := h
def Box (w : World) (k : Nat) (x y : Int) : Prop := k < w.heap.size ∧ w.cell? ⟨k, 0, none⟩ = some (.int .i64 x) ∧ w.cell? ⟨k, 1, none⟩ = some (.int .i64 y) ∧ w.frozen? ⟨k, 0, none⟩ = false ∧ w.frozen? ⟨k, 1, none⟩ = false
theorem Box.but {p k : Nat} {w w' : World} {x y : Int} (h : Box w k x y) (hw : But p w w') (hk : k ≠ p) : Box w' k x y :=
  ⟨Nat.lt_of_lt_of_le h.1 hw.2.2.2.1, by rw [hw.cell h.1 hk]; exact h.2.1, by rw [hw.cell h.1 hk]; exact h.2.2.1, by rw [hw.frozen h.1 hk]; exact h.2.2.2.1, by rw [hw.frozen h.1 hk]; exact h.2.2.2.2⟩
theorem Box.below {k : Nat} {w w' : World} {x y : Int} (h : Box w k x y) (hw : Below w.heap.size w w') : Box w' k x y :=
  ⟨Nat.lt_of_lt_of_le h.1 hw.size, by rw [hw.cell (p := ⟨k, 0, none⟩) h.1]; exact h.2.1, by rw [hw.cell (p := ⟨k, 1, none⟩) h.1]; exact h.2.2.1, by rw [hw.frozen (p := ⟨k, 0, none⟩) h.1]; exact h.2.2.2.1, by rw [hw.frozen (p := ⟨k, 1, none⟩) h.1]; exact h.2.2.2.2⟩
theorem Box.alloc {k : Nat} {w : World} {x y : Int} (h : Box w k x y) (o : Obj) : Box (w.alloc o) k x y := h.below ((Below.refl _ _).alloc (Nat.le_refl _) _)
theorem Box.setOther {k j : Nat} {w : World} {x y : Int} (h : Box w k x y) (hk : j ≠ k) (o : Nat) (u : Value) : Box (w.setCell ⟨j, o, none⟩ u) k x y := by
  have hne : ∀ q, (⟨j, o, none⟩ : Addr) ≠ ⟨k, q, none⟩ := fun q e => hk (congrArg Addr.block e)
  exact ⟨by simpa using h.1, by rw [World.cell?_setCell_other _ _ _ _ (hne _)]; exact h.2.1, by rw [World.cell?_setCell_other _ _ _ _ (hne _)]; exact h.2.2.1, by simpa using h.2.2.2.1, by simpa using h.2.2.2.2⟩
theorem Box.set {k : Nat} {w : World} {x y : Int} (h : Box w k x y) (x' y' : Int) : Box ((w.setCell ⟨k, 0, none⟩ (.int .i64 x')).setCell ⟨k, 1, none⟩ (.int .i64 y')) k x' y' := by
  refine ⟨by simpa using h.1, ?_, ?_, by simpa using h.2.2.2.1, by simpa using h.2.2.2.2⟩
  · rw [World.cell?_setCell_other _ _ _ _ (by simp), World.cell?_setCell_same _ _ _ h.2.1]
  · exact World.cell?_setCell_same _ _ _ (by rw [World.cell?_setCell_other _ _ _ _ (by simp)]; exact h.2.2.1)
theorem Box.new (w : World) (x y : Int) (T : TypeId) : Box (w.alloc (.cells #[.int .i64 x, .int .i64 y] T)) w.heap.size x y := ⟨by simp, by simp, by simp, by simp, by simp⟩
theorem CodeB.more {w : World} {B B' : Nat} {a : Option Addr} {n : Nat} (h : CodeB w B a n) (hB : B ≤ B') : CodeB w B' a n := by
  rcases h with h | ⟨b, off, h1, h2, h3⟩
  · exact .inl h
  · exact .inr ⟨b, off, h1, by omega, h3⟩
/- What a new world holds after an alloc or a store, for go_wp2's simp. -/
theorem Below.al (w : World) (o : Obj) : Below w.heap.size w (w.alloc o) := (Below.refl _ _).alloc (Nat.le_refl _) _
end Go.Proofs.Ytgfhcilhibbooaa
namespace Go.Proofs.Ytgfhcilhibbooaa
open Go.RowKit
set_option linter.unusedVariables false
def sel (b : Bool) (x : Int) : Int := match b with | true => x | false => 0
theorem sel_t {b : Bool} (h : b = true) (x : Int) : sel b x = x := by rw [h]; rfl
theorem sel_f {b : Bool} (h : b = false) (x : Int) : sel b x = 0 := by rw [h]; rfl
def imn (x y : Int) : Int := if y < x then y else x
def imx (x y : Int) : Int := if y < x then x else y
theorem imn_l {x y : Int} (h : y < x) : imn x y = y := by simp [imn, h]
theorem imn_g {x y : Int} (h : ¬ y < x) : imn x y = x := by simp [imn, h]
theorem imx_l {x y : Int} (h : y < x) : imx x y = x := by simp [imx, h]
theorem imx_g {x y : Int} (h : ¬ y < x) : imx x y = y := by simp [imx, h]
theorem imn_comm (x y : Int) : imn x y = imn y x := by unfold imn; split <;> split <;> omega
theorem imx_comm (x y : Int) : imx x y = imx y x := by unfold imx; split <;> split <;> omega
def okII (al ah bl bh : Int) : Bool := okI al ah && okI bl bh
theorem okII_t {al ah bl bh : Int} (h : okII al ah bl bh = true) : okI al ah = true ∧ okI bl bh = true := by simpa [okII] using h
def shiftB (lo hi b : Int) : Bool := okI lo hi && decide (-2000000000000 ≤ b ∧ b ≤ 2000000000000) && okI (lo + b) (hi + b)
def spreadB (lo hi l g : Int) : Bool := okI lo hi && decide (0 ≤ l ∧ l ≤ 2000000000000 ∧ 0 ≤ g ∧ g ≤ 2000000000000) && okI (lo - l) (hi + g)
def meetB (al ah bl bh : Int) : Bool := okII al ah bl bh && okI (imx al bl) (imn ah bh)
def joinB (al ah bl bh : Int) : Bool := okII al ah bl bh
def plusB (al ah bl bh : Int) : Bool := okII al ah bl bh && okI (al + bl) (ah + bh)
def lessB (al ah bl bh : Int) : Bool := okII al ah bl bh && okI (al - bh) (ah - bl)
theorem join_ok {al ah bl bh : Int} (h : okII al ah bl bh = true) : okI (imn al bl) (imx ah bh) = true := by
  have ⟨h1, h2⟩ := okII_t h
  have ⟨a1, a2, a3⟩ := okI_t h1
  have ⟨b1, b2, b3⟩ := okI_t h2
  have : imn al bl ≤ imx ah bh ∧ -1000000000000 ≤ imn al bl ∧ imx ah bh ≤ 1000000000000 := by unfold imn imx; split <;> split <;> omega
  exact decide_eq_true this
end Go.Proofs.Ytgfhcilhibbooaa
namespace Go.Proofs.Ytgfhcilhibbooaa
open Go.RowKit
set_option linter.unusedVariables false
def prs (L : List (Int × Int)) : List Value := L.flatMap fun p => [.int .i64 p.1, .int .i64 p.2]
theorem prs_add (L : List (Int × Int)) (x y : Int) : prs (L ++ [(x, y)]) = prs L ++ [.int .i64 x, .int .i64 y] := by simp [prs]
theorem But.grown {p : Nat} {w w' : World} (h : But p w w') : w.grownBy w' (some p) := ⟨h.1, h.2.1, h.2.2.1, h.2.2.2.1, fun k hk hp => h.2.2.2.2 k hk (fun e => hp (by rw [e]))⟩
theorem own_but {w w' : World} {base p : Nat} {e : TypeId} {size : Nat} {v : Value} {n : Nat} {xs : List Value} (h : w.ownsRow base e size v n xs) (hb : But p w w') (hp : p < base) : w'.ownsRow base e size v n xs :=
  h.kept hb.grown (by
    cases hv : v.ownBlock with
    | none => exact .inl rfl
    | some g => exact .inr (fun he => by have := (h.lt g hv).1; simp at he; omega))
theorem own_below {w w' : World} {base : Nat} {e : TypeId} {size : Nat} {v : Value} {n : Nat} {xs : List Value} (h : w.ownsRow base e size v n xs) (hb : Below w.heap.size w w') : w'.ownsRow base e size v n xs :=
  h.kept (row := none) ⟨hb.os, hb.tape, hb.output, hb.size, fun k hk _ => hb.block k hk⟩ (by
    cases hv : v.ownBlock with
    | none => exact .inl rfl
    | some g => exact .inr (by simp))
theorem own_set {w : World} {base : Nat} {e : TypeId} {size : Nat} {v : Value} {n : Nat} {xs : List Value} (h : w.ownsRow base e size v n xs) {k : Nat} (hk : ∀ g, v.ownBlock = some g → g ≠ k) (o : Nat) (u : Value) : (w.setCell ⟨k, o, none⟩ u).ownsRow base e size v n xs :=
  ownsRow_setCell_other h (by
    cases hv : v.ownBlock with
    | none => simp
    | some g => simp; exact hk g hv) u
theorem grown_below {w w' : World} {base : Nat} {e : TypeId} {size : Nat} {v : Value} {n : Nat} {xs : List Value} (h : w.ownsRow base e size v n xs) (hg : w.grownBy w' v.ownBlock) (hb : base ≤ w.heap.size) : Below base w w' :=
  ⟨hg.os, hg.tape, hg.output, hg.size, fun k hk => hg.block k (by omega) (fun he => by have := (h.lt k he.symm).1; omega)⟩
theorem CurOk.belowB {w w' : World} {B p base : Nat} (h : CurOk w B p) (hb : Below base w w') (hp : p < base) : CurOk w' B p := by
  obtain ⟨a, n, c, i, hh, h0, h1, h2, f0, f1, f2, hi, hn, hc, hB, hpw⟩ := h
  refine ⟨a, n, c, i, hh, ?_, ?_, ?_, ?_, ?_, ?_, hi, hn, hc.below (hb.mono (by omega)), hB, Nat.lt_of_lt_of_le hpw hb.size⟩
  · rw [hb.cell (p := ⟨p, 0, none⟩) hp]; exact h0
  · rw [hb.cell (p := ⟨p, 1, none⟩) hp]; exact h1
  · rw [hb.cell (p := ⟨p, 2, none⟩) hp]; exact h2
  · rw [hb.frozen (p := ⟨p, 0, none⟩) hp]; exact f0
  · rw [hb.frozen (p := ⟨p, 1, none⟩) hp]; exact f1
  · rw [hb.frozen (p := ⟨p, 2, none⟩) hp]; exact f2
theorem But.thenBelow {p : Nat} {a w w' : World} (h : But p a w) (hb : Below a.heap.size w w') : But p a w' :=
  ⟨hb.os.trans h.1, hb.tape.trans h.2.1, hb.output.trans h.2.2.1, Nat.le_trans h.2.2.2.1 hb.size, fun k hk hp => (hb.block k hk).trans (h.2.2.2.2 k hk hp)⟩
theorem pair_at (w : World) (a b : Int) (T : TypeId) (j : Nat) (u : Value) (h : [Value.int .i64 a, Value.int .i64 b][j]? = some u) : (w.alloc (.cells #[.int .i64 a, .int .i64 b] T)).cell? ((⟨w.heap.size, 0, none⟩ : Addr).add j) = some u := by
  match j, h with
  | 0, h => simp at h; subst h; simp [Addr.add]
  | 1, h => simp at h; subst h; simp [Addr.add]
end Go.Proofs.Ytgfhcilhibbooaa
namespace Go.Proofs.Ytgfhcilhibbooaa
open Go.RowKit
set_option linter.unusedVariables false
set_option maxHeartbeats 400000 in
theorem big_any (a : Option Addr) (n c : Nat) (w : World) :
    Calls Try.prog 5 #[.slice a n c] w fun e w' => e = .returned (.bool (decide (1048576 < (n : Int)))) ∧ w = w' := by
  go_enter Try.func5, Try.ntmps5
  go_wp2
  go_ret
  exact ⟨rfl, rfl⟩
set_option maxHeartbeats 400000 in
theorem at_any (a : Option Addr) (n c i B : Nat) (w : World) (hn : n ≤ 1048576) (hi : i ≤ 1000) (hcode : CodeB w B a n) :
    Calls Try.prog 13 #[.slice a n c, .int .i64 i] w fun e w' => ∃ x : Int, e = .returned (.int .i64 x) ∧ 0 ≤ x ∧ x ≤ 255 ∧ w = w' := by
  by_cases h : i < n
  · have hd : (i : Int) < (n : Int) := by omega
    rcases hcode with h0 | ⟨b, off, rfl, hb, hz⟩
    · omega
    · obtain ⟨z, hz, z0, z1⟩ := hz i h
      go_enter Try.func13, Try.ntmps13
      go_wp2_with fail
      go_ret
      exact ⟨z, rfl, z0, z1, rfl⟩
  · have hd : decide ((i : Int) < (n : Int)) = false := by simp; omega
    have hm := Int.emod_lt_of_pos ((i : Int) * 7 + n) (b := 256) (by omega)
    have hm0 := Int.emod_nonneg ((i : Int) * 7 + n) (b := 256) (by omega)
    clear hcode
    go_enter Try.func13, Try.ntmps13
    go_wp2_with fail
    go_ret
    exact ⟨_, rfl, by omega, by omega, rfl⟩
end Go.Proofs.Ytgfhcilhibbooaa
namespace Go.Proofs.Ytgfhcilhibbooaa
open Go.RowKit
set_option linter.unusedVariables false
theorem pickIn (B p : Nat) (w : World) (L : List Int) (hcur : CurOk w B p) (h0 : 0 < L.length) (h1 : L.length ≤ 100) :
    Calls Try.prog 48 #[.pointer (some ⟨p, 0, none⟩), .slice (some ⟨w.heap.size, 0, none⟩) L.length L.length] (w.alloc (.cells (L.map (Value.int .i64)).toArray 3)) fun e w' => ∃ v : Int, e = .returned (.int .i64 v) ∧ v ∈ L ∧ CurOk w' B p ∧ But p w w' := by
  have hb : Below w.heap.size w (w.alloc (.cells (L.map (Value.int .i64)).toArray 3)) := (Below.refl _ _).alloc (Nat.le_refl _) _
  have hl := hcur.lt
  refine (l1PickInt_any B p w.heap.size 0 L.length L.length _ (hcur.below hb) h0 h1 (by simp) (by omega) (fun j hj => ⟨L[j], by simp [hj]⟩)).mono ?_
  rintro e w' ⟨j, v, hj, hv, rfl, hc, hw⟩
  refine ⟨v, rfl, ?_, hc, (But.of_below hb).trans hw⟩
  simp [hj] at hv
  rw [← hv]
  exact List.getElem_mem hj
end Go.Proofs.Ytgfhcilhibbooaa
namespace Go.Proofs.Ytgfhcilhibbooaa
open Go.RowKit
set_option linter.unusedVariables false
theorem emp_size {s : ByteArray} (h : s.toList = []) : s.size = 0 := by
  rw [ByteArray.toList_eq] at h
  cases s with
  | mk d => simp at h; subst h; rfl
theorem msg_long {k fr tuu no lo hi sl : Int} {s : ByteArray} (h : ¬ s.size ≤ 24) : msgB k fr tuu no lo hi sl s = false := by
  have h0 : ¬ s.toList = [] := fun e => h (by rw [emp_size e]; omega)
  simp [msgB, emp, h0, h]
theorem msg_from {k fr tuu no lo hi sl : Int} {s : ByteArray} (h : nodB fr = false) : msgB k fr tuu no lo hi sl s = false := by
  simp [msgB, adB, h]
end Go.Proofs.Ytgfhcilhibbooaa
namespace Go.Proofs.Ytgfhcilhibbooaa
open Go.RowKit
set_option linter.unusedVariables false
def Thaw8 (w : World) (j : Nat) : Prop := w.frozen? ⟨j, 0, none⟩ = false ∧ w.frozen? ⟨j, 1, none⟩ = false ∧ w.frozen? ⟨j, 2, none⟩ = false ∧ w.frozen? ⟨j, 3, none⟩ = false ∧ w.frozen? ⟨j, 4, none⟩ = false ∧ w.frozen? ⟨j, 5, none⟩ = false ∧ w.frozen? ⟨j, 6, none⟩ = false ∧ w.frozen? ⟨j, 7, none⟩ = false
theorem Thaw8.belowB {j B : Nat} {w w' : World} (h : Thaw8 w j) (hw : Below B w w') (hk : j < B) : Thaw8 w' j := by
  obtain ⟨h0, h1, h2, h3, h4, h5, h6, h7⟩ := h
  exact ⟨by rw [hw.frozen (p := ⟨j, 0, none⟩) hk]; exact h0, by rw [hw.frozen (p := ⟨j, 1, none⟩) hk]; exact h1, by rw [hw.frozen (p := ⟨j, 2, none⟩) hk]; exact h2, by rw [hw.frozen (p := ⟨j, 3, none⟩) hk]; exact h3, by rw [hw.frozen (p := ⟨j, 4, none⟩) hk]; exact h4, by rw [hw.frozen (p := ⟨j, 5, none⟩) hk]; exact h5, by rw [hw.frozen (p := ⟨j, 6, none⟩) hk]; exact h6, by rw [hw.frozen (p := ⟨j, 7, none⟩) hk]; exact h7⟩
theorem Thaw8.new (w : World) (k fr tuu no lo hi sl : Int) (s : ByteArray) (T : TypeId) : Thaw8 (w.alloc (.cells #[.int .i64 k, .int .i64 fr, .int .i64 tuu, .int .i64 no, .int .i64 lo, .int .i64 hi, .int .i64 sl, .string s] T)) w.heap.size := ⟨by simp, by simp, by simp, by simp, by simp, by simp, by simp, by simp⟩
theorem Thaw8.set {w : World} {j : Nat} (h : Thaw8 w j) (p : Addr) (u : Value) : Thaw8 (w.setCell p u) j := by
  obtain ⟨h0, h1, h2, h3, h4, h5, h6, h7⟩ := h
  exact ⟨by simpa using h0, by simpa using h1, by simpa using h2, by simpa using h3, by simpa using h4, by simpa using h5, by simpa using h6, by simpa using h7⟩
theorem Box8.alloc {j : Nat} {w : World} {k fr tuu no lo hi sl : Int} {s : ByteArray} (h : Box8 w j k fr tuu no lo hi sl s) (o : Obj) : Box8 (w.alloc o) j k fr tuu no lo hi sl s := h.below ((Below.refl _ _).alloc (Nat.le_refl _) _)
theorem Box8.setO {j b : Nat} {w : World} {k fr tuu no lo hi sl : Int} {s : ByteArray} (h : Box8 w j k fr tuu no lo hi sl s) (hk : b ≠ j) (o : Nat) (u : Value) : Box8 (w.setCell ⟨b, o, none⟩ u) j k fr tuu no lo hi sl s := by
  have hne : ∀ q, (⟨b, o, none⟩ : Addr) ≠ ⟨j, q, none⟩ := fun q e => hk (congrArg Addr.block e)
  obtain ⟨h0, h1, h2, h3, h4, h5, h6, h7, h8⟩ := h
  exact ⟨by simpa using h0, by rw [World.cell?_setCell_other _ _ _ _ (hne _)]; exact h1, by rw [World.cell?_setCell_other _ _ _ _ (hne _)]; exact h2, by rw [World.cell?_setCell_other _ _ _ _ (hne _)]; exact h3, by rw [World.cell?_setCell_other _ _ _ _ (hne _)]; exact h4, by rw [World.cell?_setCell_other _ _ _ _ (hne _)]; exact h5, by rw [World.cell?_setCell_other _ _ _ _ (hne _)]; exact h6, by rw [World.cell?_setCell_other _ _ _ _ (hne _)]; exact h7, by rw [World.cell?_setCell_other _ _ _ _ (hne _)]; exact h8⟩
theorem cell_set_off (w : World) (j a b : Nat) (u : Value) (h : a ≠ b) : (w.setCell ⟨j, a, none⟩ u).cell? ⟨j, b, none⟩ = w.cell? ⟨j, b, none⟩ := World.cell?_setCell_other _ _ _ _ (by intro e; exact h (congrArg Addr.off e))
theorem Box8.set0 {j : Nat} {w : World} {k fr tuu no lo hi sl : Int} {s : ByteArray} (h : Box8 w j k fr tuu no lo hi sl s) (x : Int) : Box8 (w.setCell ⟨j, 0, none⟩ (.int .i64 x)) j x fr tuu no lo hi sl s := by
  obtain ⟨h0, h1, h2, h3, h4, h5, h6, h7, h8⟩ := h
  exact ⟨by simpa using h0, World.cell?_setCell_same _ _ _ h1, by rw [cell_set_off _ _ _ _ _ (by decide)]; exact h2, by rw [cell_set_off _ _ _ _ _ (by decide)]; exact h3, by rw [cell_set_off _ _ _ _ _ (by decide)]; exact h4, by rw [cell_set_off _ _ _ _ _ (by decide)]; exact h5, by rw [cell_set_off _ _ _ _ _ (by decide)]; exact h6, by rw [cell_set_off _ _ _ _ _ (by decide)]; exact h7, by rw [cell_set_off _ _ _ _ _ (by decide)]; exact h8⟩
theorem Box8.set1 {j : Nat} {w : World} {k fr tuu no lo hi sl : Int} {s : ByteArray} (h : Box8 w j k fr tuu no lo hi sl s) (x : Int) : Box8 (w.setCell ⟨j, 1, none⟩ (.int .i64 x)) j k x tuu no lo hi sl s := by
  obtain ⟨h0, h1, h2, h3, h4, h5, h6, h7, h8⟩ := h
  exact ⟨by simpa using h0, by rw [cell_set_off _ _ _ _ _ (by decide)]; exact h1, World.cell?_setCell_same _ _ _ h2, by rw [cell_set_off _ _ _ _ _ (by decide)]; exact h3, by rw [cell_set_off _ _ _ _ _ (by decide)]; exact h4, by rw [cell_set_off _ _ _ _ _ (by decide)]; exact h5, by rw [cell_set_off _ _ _ _ _ (by decide)]; exact h6, by rw [cell_set_off _ _ _ _ _ (by decide)]; exact h7, by rw [cell_set_off _ _ _ _ _ (by decide)]; exact h8⟩
theorem Box8.set2 {j : Nat} {w : World} {k fr tuu no lo hi sl : Int} {s : ByteArray} (h : Box8 w j k fr tuu no lo hi sl s) (x : Int) : Box8 (w.setCell ⟨j, 2, none⟩ (.int .i64 x)) j k fr x no lo hi sl s := by
  obtain ⟨h0, h1, h2, h3, h4, h5, h6, h7, h8⟩ := h
  exact ⟨by simpa using h0, by rw [cell_set_off _ _ _ _ _ (by decide)]; exact h1, by rw [cell_set_off _ _ _ _ _ (by decide)]; exact h2, World.cell?_setCell_same _ _ _ h3, by rw [cell_set_off _ _ _ _ _ (by decide)]; exact h4, by rw [cell_set_off _ _ _ _ _ (by decide)]; exact h5, by rw [cell_set_off _ _ _ _ _ (by decide)]; exact h6, by rw [cell_set_off _ _ _ _ _ (by decide)]; exact h7, by rw [cell_set_off _ _ _ _ _ (by decide)]; exact h8⟩
theorem Box8.set3 {j : Nat} {w : World} {k fr tuu no lo hi sl : Int} {s : ByteArray} (h : Box8 w j k fr tuu no lo hi sl s) (x : Int) : Box8 (w.setCell ⟨j, 3, none⟩ (.int .i64 x)) j k fr tuu x lo hi sl s := by
  obtain ⟨h0, h1, h2, h3, h4, h5, h6, h7, h8⟩ := h
  exact ⟨by simpa using h0, by rw [cell_set_off _ _ _ _ _ (by decide)]; exact h1, by rw [cell_set_off _ _ _ _ _ (by decide)]; exact h2, by rw [cell_set_off _ _ _ _ _ (by decide)]; exact h3, World.cell?_setCell_same _ _ _ h4, by rw [cell_set_off _ _ _ _ _ (by decide)]; exact h5, by rw [cell_set_off _ _ _ _ _ (by decide)]; exact h6, by rw [cell_set_off _ _ _ _ _ (by decide)]; exact h7, by rw [cell_set_off _ _ _ _ _ (by decide)]; exact h8⟩
theorem Box8.set4 {j : Nat} {w : World} {k fr tuu no lo hi sl : Int} {s : ByteArray} (h : Box8 w j k fr tuu no lo hi sl s) (x : Int) : Box8 (w.setCell ⟨j, 4, none⟩ (.int .i64 x)) j k fr tuu no x hi sl s := by
  obtain ⟨h0, h1, h2, h3, h4, h5, h6, h7, h8⟩ := h
  exact ⟨by simpa using h0, by rw [cell_set_off _ _ _ _ _ (by decide)]; exact h1, by rw [cell_set_off _ _ _ _ _ (by decide)]; exact h2, by rw [cell_set_off _ _ _ _ _ (by decide)]; exact h3, by rw [cell_set_off _ _ _ _ _ (by decide)]; exact h4, World.cell?_setCell_same _ _ _ h5, by rw [cell_set_off _ _ _ _ _ (by decide)]; exact h6, by rw [cell_set_off _ _ _ _ _ (by decide)]; exact h7, by rw [cell_set_off _ _ _ _ _ (by decide)]; exact h8⟩
theorem Box8.set5 {j : Nat} {w : World} {k fr tuu no lo hi sl : Int} {s : ByteArray} (h : Box8 w j k fr tuu no lo hi sl s) (x : Int) : Box8 (w.setCell ⟨j, 5, none⟩ (.int .i64 x)) j k fr tuu no lo x sl s := by
  obtain ⟨h0, h1, h2, h3, h4, h5, h6, h7, h8⟩ := h
  exact ⟨by simpa using h0, by rw [cell_set_off _ _ _ _ _ (by decide)]; exact h1, by rw [cell_set_off _ _ _ _ _ (by decide)]; exact h2, by rw [cell_set_off _ _ _ _ _ (by decide)]; exact h3, by rw [cell_set_off _ _ _ _ _ (by decide)]; exact h4, by rw [cell_set_off _ _ _ _ _ (by decide)]; exact h5, World.cell?_setCell_same _ _ _ h6, by rw [cell_set_off _ _ _ _ _ (by decide)]; exact h7, by rw [cell_set_off _ _ _ _ _ (by decide)]; exact h8⟩
theorem Box8.set6 {j : Nat} {w : World} {k fr tuu no lo hi sl : Int} {s : ByteArray} (h : Box8 w j k fr tuu no lo hi sl s) (x : Int) : Box8 (w.setCell ⟨j, 6, none⟩ (.int .i64 x)) j k fr tuu no lo hi x s := by
  obtain ⟨h0, h1, h2, h3, h4, h5, h6, h7, h8⟩ := h
  exact ⟨by simpa using h0, by rw [cell_set_off _ _ _ _ _ (by decide)]; exact h1, by rw [cell_set_off _ _ _ _ _ (by decide)]; exact h2, by rw [cell_set_off _ _ _ _ _ (by decide)]; exact h3, by rw [cell_set_off _ _ _ _ _ (by decide)]; exact h4, by rw [cell_set_off _ _ _ _ _ (by decide)]; exact h5, by rw [cell_set_off _ _ _ _ _ (by decide)]; exact h6, World.cell?_setCell_same _ _ _ h7, by rw [cell_set_off _ _ _ _ _ (by decide)]; exact h8⟩
theorem Box8.set7 {j : Nat} {w : World} {k fr tuu no lo hi sl : Int} {s : ByteArray} (h : Box8 w j k fr tuu no lo hi sl s) (x : ByteArray) : Box8 (w.setCell ⟨j, 7, none⟩ (.string x)) j k fr tuu no lo hi sl x := by
  obtain ⟨h0, h1, h2, h3, h4, h5, h6, h7, h8⟩ := h
  exact ⟨by simpa using h0, by rw [cell_set_off _ _ _ _ _ (by decide)]; exact h1, by rw [cell_set_off _ _ _ _ _ (by decide)]; exact h2, by rw [cell_set_off _ _ _ _ _ (by decide)]; exact h3, by rw [cell_set_off _ _ _ _ _ (by decide)]; exact h4, by rw [cell_set_off _ _ _ _ _ (by decide)]; exact h5, by rw [cell_set_off _ _ _ _ _ (by decide)]; exact h6, by rw [cell_set_off _ _ _ _ _ (by decide)]; exact h7, World.cell?_setCell_same _ _ _ h8⟩
theorem Thaw8.alloc {j : Nat} {w : World} (h : Thaw8 w j) (hj : j < w.heap.size) (o : Obj) : Thaw8 (w.alloc o) j := h.belowB ((Below.refl w.heap.size w).alloc (Nat.le_refl _) _) hj
end Go.Proofs.Ytgfhcilhibbooaa
namespace Go.Proofs.Ytgfhcilhibbooaa
open Go.RowKit
set_option linter.unusedVariables false
end Go.Proofs.Ytgfhcilhibbooaa
namespace Go.Proofs.Ytgfhcilhibbooaa
open Go.RowKit
set_option linter.unusedVariables false
def rowObjB (n : Nat) : Obj := .cells (madeCells #[.int .u8 0] n) 5
theorem mk_rowB (n : Nat) (h : n ≤ 1048576) (w : World) : (Instr.makeSlice 22 (.int .i64 (n : Int)) (.int .i64 (n : Int))).run Try.prog w = .ok (.slice (some ⟨w.heap.size, 0, none⟩) n n) (w.alloc (rowObjB n)) := by
  obtain ⟨i, hi, hz⟩ := Option.map_eq_some_iff.1 infoByte
  simp only [Prod.mk.injEq] at hz
  obtain ⟨h1, h2, h3⟩ := hz
  have hr := run_make (P := Try.prog) w 22 5 i _ Try.underlying22 hi h1 .i64 .i64 n n (by omega) (Int.le_refl _) (by rw [h3]; omega) (by omega)
  simp only [Int.toNat_natCast, h2, Nat.mul_one] at hr
  exact hr
theorem rowObjB_is (w : World) (n : Nat) : (w.alloc (rowObjB n)).rowIs w.heap.size 5 n (fun _ => .int .u8 0) := by
  have h := World.rowIs_alloc w (madeCells #[.int .u8 0] n) 5 (fun _ => .int .u8 0) (fun i hi => by
    rw [size_madeCells] at hi
    simp [madeCells, hi, Nat.mod_one])
  rw [size_madeCells] at h
  exact h
def RowB (w : World) (b t n k : Nat) (f : Nat → Int) : Prop := ∃ g, w.rowIs b t n g ∧ ∀ j, j < k → g j = .int .u8 (f j)
theorem RowB.step {w : World} {b t n k : Nat} {f : Nat → Int} (h : RowB w b t n k f) : RowB (w.setCell ⟨b, k, none⟩ (.int .u8 (f k))) b t n (k + 1) f := by
  obtain ⟨g, hr, hg⟩ := h
  refine ⟨_, hr.set _ _, fun j hj => ?_⟩
  rcases Nat.lt_succ_iff_lt_or_eq.1 hj with h1 | h1
  · have e1 : ¬ j = k := by omega
    simp only [if_neg e1]
    exact hg j h1
  · subst h1
    simp only [if_true]
theorem RowB.below {w w' : World} {B b t n k : Nat} {f : Nat → Int} (h : RowB w b t n k f) (hb : Below B w w') (hB : b < B) : RowB w' b t n k f := by
  obtain ⟨g, hr, hg⟩ := h
  exact ⟨g, hr.of_block (hb.block b hB), hg⟩
theorem RowB.facts {w : World} {b t n k : Nat} {f : Nat → Int} (h : RowB w b t n k f) (hk : k < n) : b < w.heap.size ∧ (∃ v, w.cell? ⟨b, k, none⟩ = some v) ∧ w.frozen? ⟨b, k, none⟩ = false := by
  obtain ⟨g, hr, hg⟩ := h
  exact ⟨hr.lt, ⟨_, hr.cell (by omega)⟩, hr.frozen _⟩
theorem RowB.lt {w : World} {b t n k : Nat} {f : Nat → Int} (h : RowB w b t n k f) : b < w.heap.size := by obtain ⟨g, hr, hg⟩ := h; exact hr.lt
theorem RowB.byts {w : World} {b t N n : Nat} {f : Nat → Int} (h : RowB w b t N n f) (hn : n ≤ N) : Byts w b 0 n f := by
  obtain ⟨g, hr, hg⟩ := h
  exact ⟨hr.lt, fun i hi => by rw [Nat.zero_add, hr.cell (by omega), hg i hi]⟩
def fmb (i : Nat) : Int := IntKind.u8.wrap (1 + (i : Int))
theorem grownB_set {w wr : World} {b : Nat} (h : w.grownBy wr (some b)) (o : Nat) (u : Value) : w.grownBy (wr.setCell ⟨b, o, none⟩ u) (some b) :=
  ⟨h.os, h.tape, h.output, by rw [World.size_setCell]; exact h.size, fun k hk hp => (Below.heap_setCell wr ⟨b, o, none⟩ u k (fun e => hp (by rw [e]))).trans (h.block k hk hp)⟩
theorem grownB_belowB {w w' : World} {b B : Nat} (h : w.grownBy w' (some b)) (hB : B ≤ b) (hs : B ≤ w.heap.size) : Below B w w' := ⟨h.os, h.tape, h.output, h.size, fun k hk => h.block k (by omega) (fun e => by simp at e; omega)⟩
theorem ownB_rowB {w : World} {base : Nat} {T : TypeId} {g n cap : Nat} {xs : List Value} (h : w.ownsRow base T 1 (.slice (some ⟨g, 0, none⟩) n cap) n xs) : base ≤ g ∧ n ≤ cap ∧ RowB w g T cap 0 fmb := by
  rcases h.2 with ⟨h, _⟩ | ⟨g', cap', cur, he, h2, h3, h4, h5, h6, h7⟩
  · simp at h
  · simp at he
    obtain ⟨rfl, rfl⟩ := he
    exact ⟨h2, h4, _, ⟨cur, h3, by omega, fun i hi => by rw [Array.getElem?_eq_getElem (by omega)]; exact congrArg some (by rw [Array.getD_eq_getD_getElem?, Array.getElem?_eq_getElem (by omega)]; rfl : cur[i]'(by omega) = cur.getD i undef)⟩, fun j hj => absurd hj (Nat.not_lt_zero _)⟩
end Go.Proofs.Ytgfhcilhibbooaa
namespace Go.Proofs.Ytgfhcilhibbooaa
open Go.RowKit
set_option linter.unusedVariables false
theorem xor_i64 (a b : Nat) (ha : a < 256) (hb : b < 256) : bits .xor .i64 (a : Int) (b : Int) = ((a ^^^ b : Nat) : Int) := by
  have e : bits .xor .i64 (a : Int) (b : Int) = IntKind.i64.wrap ((BitVec.ofInt 64 (a : Int) ^^^ BitVec.ofInt 64 (b : Int)).toNat : Int) := rfl
  have h1 : (BitVec.ofInt 64 (a : Int) ^^^ BitVec.ofInt 64 (b : Int)).toNat = a ^^^ b := by
    rw [BitVec.toNat_xor, BitVec.ofInt_natCast, BitVec.ofInt_natCast, BitVec.toNat_ofNat, BitVec.toNat_ofNat, Nat.mod_eq_of_lt (show a < 2 ^ 64 by omega), Nat.mod_eq_of_lt (show b < 2 ^ 64 by omega)]
  have h2 : a ^^^ b < 2 ^ 8 := Nat.xor_lt_two_pow (by omega) (by omega)
  rw [e, h1, Go.IntWalk.i64_in _ ⟨by omega, by omega⟩]
theorem xor_bd {a b : Int} (a0 : 0 ≤ a) (a1 : a ≤ 255) (b0 : 0 ≤ b) (b1 : b ≤ 255) : 0 ≤ bits .xor .i64 a b ∧ bits .xor .i64 a b ≤ 255 := by
  obtain ⟨m, rfl⟩ := Int.eq_ofNat_of_zero_le a0
  obtain ⟨n, rfl⟩ := Int.eq_ofNat_of_zero_le b0
  rw [xor_i64 m n (by omega) (by omega)]
  have h2 : m ^^^ n < 2 ^ 8 := Nat.xor_lt_two_pow (by omega) (by omega)
  omega
theorem and255I (a : Int) (h0 : 0 ≤ a) (h1 : a ≤ 9223372036854775807) : bits .and .i64 a 255 = a % 256 := by
  obtain ⟨n, rfl⟩ := Int.eq_ofNat_of_zero_le h0
  have e : bits .and .i64 (n : Int) 255 = IntKind.i64.wrap ((BitVec.ofInt 64 (n : Int) &&& BitVec.ofInt 64 255).toNat : Int) := rfl
  have h1 : (BitVec.ofInt 64 (n : Int) &&& BitVec.ofInt 64 255).toNat = n % 256 := by
    rw [BitVec.toNat_and, BitVec.ofInt_natCast, BitVec.toNat_ofNat, Nat.mod_eq_of_lt (show n < 2 ^ 64 by omega)]
    exact Nat.and_two_pow_sub_one_eq_mod n 8
  rw [e, h1, Go.IntWalk.i64_in _ ⟨by omega, by omega⟩]
  omega
def dblI (n : Int) : Int := if 255 < 2 * n then bits .xor .i64 (2 * n % 256) 7 else 2 * n
def turnI : Nat → Int → Int
  | 0, n => n
  | k + 1, n => dblI (turnI k n)
def chk (f : Nat → Int) : Nat → Int
  | 0 => 90
  | i + 1 => turnI 8 (bits .xor .i64 (chk f i) (f i))
theorem dblI_bd {n : Int} (h0 : 0 ≤ n) (h1 : n ≤ 255) : 0 ≤ dblI n ∧ dblI n ≤ 255 := by
  unfold dblI
  split
  · exact xor_bd (by omega) (by omega) (by omega) (by omega)
  · omega
theorem turnI_bd {n : Int} (h0 : 0 ≤ n) (h1 : n ≤ 255) : ∀ k, 0 ≤ turnI k n ∧ turnI k n ≤ 255
  | 0 => ⟨h0, h1⟩
  | k + 1 => dblI_bd (turnI_bd h0 h1 k).1 (turnI_bd h0 h1 k).2
theorem chk_bd {f : Nat → Int} : ∀ {n : Nat}, (∀ i, i < n → 0 ≤ f i ∧ f i ≤ 255) → 0 ≤ chk f n ∧ chk f n ≤ 255
  | 0, _ => by simp [chk]
  | n + 1, h => by
    have a := chk_bd (f := f) (n := n) (fun i hi => h i (by omega))
    have b := xor_bd a.1 a.2 (h n (by omega)).1 (h n (by omega)).2
    exact turnI_bd b.1 b.2 8
theorem dblI_hi {n : Int} (h : 255 < 2 * n) : dblI n = bits .xor .i64 (2 * n % 256) 7 := if_pos h
theorem dblI_lo {n : Int} (h : ¬ 255 < 2 * n) : dblI n = 2 * n := if_neg h
theorem chk_congr {f g : Nat → Int} : ∀ {n : Nat}, (∀ i, i < n → f i = g i) → chk f n = chk g n
  | 0, _ => rfl
  | n + 1, h => by simp only [chk]; rw [chk_congr (n := n) (fun i hi => h i (by omega)), h n (by omega)]
end Go.Proofs.Ytgfhcilhibbooaa
namespace Go.Proofs.Ytgfhcilhibbooaa
open Go.RowKit
set_option linter.unusedVariables false
def strL (s : ByteArray) : List Int := s.data.toList.map fun b => (b.toNat : Int)
theorem strL_len (s : ByteArray) : (strL s).length = s.size := by rw [strL, List.length_map, Array.length_toList]; rfl
theorem strL_cells (s : ByteArray) : Go.Lib.strCells s = bts (strL s) := by rw [Go.Lib.strCells, bts, strL, List.map_map]; rfl
theorem strL_rng (s : ByteArray) : ∀ z ∈ strL s, 0 ≤ z ∧ z ≤ 255 := by
  intro z hz
  simp [strL] at hz
  obtain ⟨b, _, rfl⟩ := hz
  have := b.toNat_lt
  omega
def packB (k fr tuu no lo hi sl : Int) (s : ByteArray) : List Int :=
  k :: putL fr ++ (if k = 3 then putL sl ++ putL s.size ++ strL s else putL tuu ++ putL no) ++ (if k = 2 then putL (foldI lo) ++ putL (foldI hi) else [])
def addChk (L : List Int) : List Int := L ++ [chk (fun i => L.getD i 0) L.length]
def packL (k fr tuu no lo hi sl : Int) (s : ByteArray) : List Int := addChk (packB k fr tuu no lo hi sl s)
def packR (k fr tuu no lo hi sl : Int) (s : ByteArray) : List Int := if msgB k fr tuu no lo hi sl s then packL k fr tuu no lo hi sl s else []
theorem bts_app (L M : List Int) : bts (L ++ M) = bts L ++ bts M := by simp [bts]
theorem bts_one (M : List Int) : ∀ u ∈ bts M, u.oneCell' = true := by
  intro u hu
  simp [bts] at hu
  obtain ⟨z, _, rfl⟩ := hu
  rfl
theorem putL_ne {x : Int} (h : 0 ≤ x) : putL x ≠ [] := by
  rw [putL, if_neg (by omega)]
  intro e
  unfold putN at e
  split at e <;> simp at e
theorem ownB_some {w : World} {base : Nat} {T : TypeId} {v : Value} {L : List Int} (h : w.ownsRow base T 1 v L.length (bts L)) (hne : L ≠ []) : ∃ g c, v = .slice (some ⟨g, 0, none⟩) L.length c := by
  rcases h.2 with ⟨_, h0⟩ | ⟨g, cap, cur, rfl, _⟩
  · exact absurd (List.eq_nil_of_length_eq_zero h0) hne
  · exact ⟨g, cap, rfl⟩
theorem ownB_cells {w : World} {base g c : Nat} {T : TypeId} {L : List Int} (h : w.ownsRow base T 1 (.slice (some ⟨g, 0, none⟩) L.length c) L.length (bts L)) : ∀ j u, (bts L)[j]? = some u → w.cell? ((⟨g, 0, none⟩ : Addr).add j) = some u := h.cells rfl
theorem ownB_one (w : World) (base : Nat) (T : TypeId) (x : Int) (hb : base ≤ w.heap.size) : (w.alloc (.cells #[.int .u8 x] T)).ownsRow base T 1 (.slice (some ⟨w.heap.size, 0, none⟩) 1 1) [x].length (bts [x]) :=
  ⟨by simp [bts], .inr ⟨w.heap.size, 1, _, rfl, hb, heap_alloc_new w _, Nat.le_refl _, by simp [maxLen], by simp, by simp [bts]⟩⟩
theorem ownB_base {w : World} {base base' : Nat} {e : TypeId} {size : Nat} {v : Value} {n : Nat} {xs : List Value} (h : w.ownsRow base e size v n xs) (hb : base' ≤ base) : w.ownsRow base' e size v n xs := by
  refine ⟨h.1, ?_⟩
  rcases h.2 with h | ⟨g, cap, cur, h1, h2, h3⟩
  · exact .inl h
  · exact .inr ⟨g, cap, cur, h1, by omega, h3⟩
theorem Box8.drew {j : Nat} {w : World} {k fr tuu no lo hi sl : Int} {s : ByteArray} (h : Box8 w j k fr tuu no lo hi sl s) : Box8 w.drew j k fr tuu no lo hi sl s := h
theorem rng_app {L M : List Int} (h : ∀ y ∈ L, 0 ≤ y ∧ y ≤ 255) (h' : ∀ y ∈ M, 0 ≤ y ∧ y ≤ 255) : ∀ y ∈ L ++ M, 0 ≤ y ∧ y ≤ 255 := fun y hy => by
  rcases List.mem_append.1 hy with k | k
  · exact h y k
  · exact h' y k
theorem rng_at {L : List Int} (h : ∀ y ∈ L, 0 ≤ y ∧ y ≤ 255) : ∀ i, i < L.length → 0 ≤ L.getD i 0 ∧ L.getD i 0 ≤ 255 := fun i hi => h _ (by
  rw [List.getD_eq_getElem?_getD, List.getElem?_eq_getElem hi]; exact List.getElem_mem hi)
theorem msgB_from {k fr tuu no lo hi sl : Int} {s : ByteArray} (h : msgB k fr tuu no lo hi sl s = true) : 0 ≤ fr ∧ fr ≤ 7 ∧ 1 ≤ k ∧ k ≤ 3 ∧ s.size ≤ 24 := by
  have hf : nodB fr = true := by
    cases e : nodB fr
    · rw [msg_from e] at h; cases h
    · rfl
  have hz : s.size ≤ 24 := Decidable.not_not.1 fun e => by rw [msg_long e] at h; cases h
  have hk : k = 1 ∨ k = 2 ∨ k = 3 := by
    unfold msgB at h
    split at h
    · omega
    · split at h
      · omega
      · split at h
        · omega
        · cases h
  simp [nodB] at hf
  omega
theorem msgB_pair {k fr tuu no lo hi sl : Int} {s : ByteArray} (h : msgB k fr tuu no lo hi sl s = true) (hk : k ≠ 3) : 0 ≤ tuu ∧ tuu ≤ 7 ∧ 0 ≤ no ∧ no ≤ 100000999 := by
  have ha : adB fr tuu no = true := by
    unfold msgB at h
    split at h
    · simp at h; exact h.1.1.1.1
    · split at h
      · simp at h; exact h.1.1.1
      · first | (cases h; done) | (rw [if_neg hk] at h; cases h)
  simp [adB, nodB] at ha
  omega
theorem msgB_said {fr tuu no lo hi sl : Int} {s : ByteArray} (h : msgB 2 fr tuu no lo hi sl s = true) : okI lo hi = true := by
  simp [msgB] at h; exact h.1.1.2
theorem msgB_slot {fr tuu no lo hi sl : Int} {s : ByteArray} (h : msgB 3 fr tuu no lo hi sl s = true) : 0 ≤ sl ∧ sl ≤ 15 := by
  simp [msgB] at h; omega
theorem foldI_bd (x : Int) : 0 ≤ foldI x ∧ foldI x ≤ 2000000000000 := by
  unfold foldI
  split
  · split <;> omega
  · omega
theorem row_cells (w : World) (s : ByteArray) (cap : Nat) (T : TypeId) (fz : Nat × Nat) : ∀ j u, (bts (strL s))[j]? = some u → (w.drew.alloc (.cells (bytesRow s cap) T fz)).cell? ((⟨w.heap.size, 0, none⟩ : Addr).add j) = some u := by
  intro j u hu
  have hj : j < s.data.size := by
    have := (List.getElem?_eq_some_iff.1 hu).1
    rw [bts_len, strL_len] at this
    exact this
  have e : (⟨w.heap.size, 0, none⟩ : Addr).add j = ⟨w.drew.heap.size, j, none⟩ := by
    unfold Addr.add
    split
    · next h => subst h; rfl
    · simp
  rw [e, World.cell?_alloc_mark, bytesRow_at s cap j hj]
  have : (bts (strL s))[j]? = some (.int .u8 (s.data[j].toNat : Int)) := by simp [bts, strL]; exact ⟨_, Array.getElem?_eq_getElem hj, rfl⟩
  rw [this] at hu
  exact hu
theorem len3 (A B C : List Int) : (A ++ B ++ C).length = (A ++ B).length + C.length := List.length_append
theorem bts3 (A B C : List Int) : bts (A ++ B ++ C) = bts (A ++ B) ++ bts C := bts_app _ _
theorem packR_len (k fr tuu no lo hi sl : Int) (s : ByteArray) (hs : s.size ≤ 1048576) : (packR k fr tuu no lo hi sl s).length ≤ 1048676 := by
  have a := putL_len fr
  have b := putL_len tuu
  have c := putL_len no
  have d := putL_len sl
  have e := putL_len s.size
  have f := putL_len (foldI lo)
  have g := putL_len (foldI hi)
  have h := strL_len s
  unfold packR packL addChk packB
  split
  · split <;> split <;> simp <;> omega
  · simp
theorem packR_short (k fr tuu no lo hi sl : Int) (s : ByteArray) : (packR k fr tuu no lo hi sl s).length ≤ 100 := by
  cases hm : msgB k fr tuu no lo hi sl s
  · simp [packR, hm]
  · have hk := (msgB_from hm).2.2.2.2
    have a := putL_len fr
    have b := putL_len tuu
    have c := putL_len no
    have d := putL_len sl
    have e := putL_len s.size
    have f := putL_len (foldI lo)
    have g := putL_len (foldI hi)
    have h := strL_len s
    unfold packR packL addChk packB
    rw [if_pos hm]
    split <;> split <;> simp <;> omega
end Go.Proofs.Ytgfhcilhibbooaa
namespace Go.Proofs.Ytgfhcilhibbooaa
open Go.RowKit
set_option linter.unusedVariables false
set_option maxHeartbeats 4000000 in
theorem l4DrawBody_any (B p : Nat) (most : Int) (w : World) (hcur : CurOk w B p) (h0 : 0 ≤ most) (h1 : most ≤ 99) :
    Calls Try.prog 64 #[.pointer (some ⟨p, 0, none⟩), .int .i64 most] w fun e w' => ∃ s : ByteArray, e = .returned (.string s) ∧ s.size ≤ 100 ∧ CurOk w' B p ∧ But p w w' := by
  obtain ⟨i0, hi, hz0, hz1, hz2⟩ := info_parts infoByte
  have hpl := hcur.lt
  have A1 := Below.al w (.cells #[] 5)
  have o0 : (w.alloc (.cells #[] 5)).ownsRow w.heap.size 5 1 (.slice (some ⟨w.heap.size, 0, none⟩) 0 0) 0 [] := World.ownsRow_made w #[] 0 (Nat.le_refl _) (by simp [maxLen]) (by simp)
  go_enter Try.func64, Try.ntmps64
  go_wp2_with fail
  refine (l1Below_any B p _ _ (hcur.below A1)).mono ?_
  rintro e w1 ⟨x, rfl, xl, xh, xp, xz, w1c, w1b⟩
  have hx := xp (by omega)
  have o1 := own_but o0 w1b (by omega)
  have b1 : But p w w1 := (But.of_below A1).trans w1b
  clear xp xz o0 A1 w1b hcur
  go_wp2_with fail
  go_loopw [5, 7] (fun v i wr => ∃ L : List Int, (L.length : Int) ≤ x ∧ i = .int .i64 L.length ∧ wr.ownsRow w.heap.size 5 1 v L.length (bts L) ∧ CurOk wr B p ∧ But p w wr) (fun _ i _ => x.toNat - (intOf i).toNat)
  case atStart => exact ⟨[], by simpa using xl, rfl, o1, w1c, b1⟩
  case round =>
    obtain ⟨L, hk, rfl, hown, wrc, wrb⟩ := hrel
    clear o1 w1c b1
    by_cases hlt : (L.length : Int) < x
    · go_wp2_with fail
      have hp := pickIn B p wr [97, 98, 99, 32, 48, 0, 255, 128, 34, 92] wrc (by simp) (by simp); simp only [List.map_cons, List.map_nil, List.length_cons, List.length_nil, Nat.zero_add, Nat.reduceAdd] at hp; refine hp.mono ?_; clear hp; rintro e w3 ⟨y, rfl, ym, w3c, w3b⟩
      have y0 : 0 ≤ y ∧ y ≤ 255 := by simp at ym; omega
      have hyw : IntKind.u8.wrap y = y := Go.IntWalk.u8_in _ ⟨by omega, by omega⟩
      have o3 := own_but hown w3b (by omega)
      have b3 : But p w w3 := wrb.trans w3b
      clear ym hown wrc wrb w3b
      have hsz : w.heap.size ≤ (w3.alloc (.cells #[.int .u8 y] 5)).heap.size := by have := b3.2.2.2.1; simp; omega
      have A3 := Below.al w3 (.cells #[.int .u8 y] 5)
      go_wp2_with (at_builtin; refine wpList_append_own _ rfl _ _ 22 rfl w.heap.size 5 i0 (.int .u8 0) 1 1 Try.underlying22 hi hz0 hz1 hz2 rfl (by decide) _ _ _ rfl (World.ownsRow.alloc o3 _) ⟨w3.heap.size, 0, none⟩ 1 1 [.int .u8 y] rfl rfl (fun j u hj => byte_at w3 _ 5 j u hj) (by intro u hu; simp at hu; subst hu; rfl) (by unfold maxLen; omega) (by omega) hsz ?_; intro v' w4 hown' hgrow _)
      have G4 := grownB_below (World.ownsRow.alloc o3 _) hgrow hsz
      have w4c : CurOk w4 B p := CurOk.belowB (CurOk.below w3c A3) G4 (by omega)
      have b4 : But p w w4 := But.thenBelow (But.alloc b3 _) G4
      have R4 : w4.ownsRow w.heap.size 5 1 v' (L ++ [y]).length (bts (L ++ [y])) := by rw [bts_add]; simpa using hown'
      clear hown' hgrow G4 A3 hsz o3 b3 w3c
      (try go_wp2_with fail)
      go_roundw
      case rel => exact ⟨L ++ [y], by simp; omega, by simp; try go_num, R4, w4c, b4⟩
      case measure => simp [intOf]; omega
    · obtain ⟨a, c, rfl, hc, hcm, hs⟩ := ownB_src hown
      have HCV : ∃ s : ByteArray, s.size ≤ 100 ∧ (convert 22 9 (.slice a L.length c)).run Try.prog wr = .ok (.string s) wr := by
        rcases hown.2 with ⟨he, h0⟩ | ⟨g, cap, cur, he, _⟩
        · simp at he
          obtain ⟨rfl, _, _⟩ := he
          exact ⟨ByteArray.empty, by simp, run_convert_bytes_nil wr 22 5 Try.underlying22 Try.underlying5 _ _ 9 Try.underlying9⟩
        · simp at he
          obtain ⟨rfl, rfl⟩ := he
          refine ⟨strOfNums L, by rw [strOfNums_size]; omega, run_convert_bytes_arg wr 22 5 Try.underlying22 Try.underlying5 g 0 L.length c L rfl (fun i hi => ?_) 9 Try.underlying9⟩
          rcases hs with q | ⟨b', off', q1, q2⟩
          · omega
          · simp at q1
            obtain ⟨rfl, rfl⟩ := q1
            exact q2.2 i hi
      obtain ⟨s, hs100, hcv⟩ := HCV
      clear hs hown
      go_wp2_with fail
      go_ret
      exact ⟨s, rfl, hs100, wrc, wrb⟩
end Go.Proofs.Ytgfhcilhibbooaa
