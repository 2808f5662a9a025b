/- What a packed message is. A reader that gives up: giveUp, codeOf; what a reader is in memory. Contracts of the reader: field, take, kind. What Unpack comes to. Contracts of the reader: msg. The walk of FnOneBit. -/
import Derived.Lib.AppendStr
import Derived.Laws.IdiomStrings
import Derived.Defers
import Derived.Recover
import Derived.Test.YtddjiamollfplaaGreatDoorML9
import Derived.Test.YtddjiamollfplaaGreatDoorML15
namespace Go.Proofs.YtddjiamollfplaaGreatDoor
open Go.RowKit
set_option linter.unusedVariables false
def strL (s : ByteArray) : List Int := s.data.toList.map fun b => (b.toNat : Int)
theorem strL_len (s : ByteArray) : (strL s).length = s.size := by rw [strL, List.length_map, Array.length_toList]; rfl
theorem strL_cells (s : ByteArray) : Go.Lib.strCells s = bts (strL s) := by rw [Go.Lib.strCells, bts, strL, List.map_map]; rfl
theorem strL_rng (s : ByteArray) : ∀ z ∈ strL s, 0 ≤ z ∧ z ≤ 255 := by
 intro z hz
 simp [strL] at hz
 obtain ⟨b, _, rfl⟩ := hz
 have := b.toNat_lt
 omega
def packB (k fr tuu no lo hi sl : Int) (s : ByteArray) : List Int :=
 k :: putL fr ++ (if k = 3 then putL sl ++ putL s.size ++ strL s else putL tuu ++ putL no) ++ (if k = 2 then putL (foldI lo) ++ putL (foldI hi) else [])
def addChk (L : List Int) : List Int := L ++ [chk (fun i => L.getD i 0) L.length]
def packL (k fr tuu no lo hi sl : Int) (s : ByteArray) : List Int := addChk (packB k fr tuu no lo hi sl s)
def packR (k fr tuu no lo hi sl : Int) (s : ByteArray) : List Int := if msgB k fr tuu no lo hi sl s then packL k fr tuu no lo hi sl s else []
theorem bts_app (L M : List Int) : bts (L ++ M) = bts L ++ bts M := by simp [bts]
theorem bts_one (M : List Int) : ∀ u ∈ bts M, u.oneCell' = true := by
 intro u hu
 simp [bts] at hu
 obtain ⟨z, _, rfl⟩ := hu
 rfl
theorem putL_ne {x : Int} (h : 0 ≤ x) : putL x ≠ [] := by
 rw [putL, if_neg (by omega)]
 intro e
 unfold putN at e
 split at e <;> simp at e
theorem ownB_some {w : World} {base : Nat} {T : TypeId} {v : Value} {L : List Int} (h : w.ownsRow base T 1 v L.length (bts L)) (hne : L ≠ []) : ∃ g c, v = .slice (some ⟨g, 0, none⟩) L.length c := by
 rcases h.2 with ⟨_, h0⟩ | ⟨g, cap, cur, rfl, _⟩
 ·exact absurd (List.eq_nil_of_length_eq_zero h0) hne
 ·exact ⟨g, cap, rfl⟩
theorem ownB_cells {w : World} {base g c : Nat} {T : TypeId} {L : List Int} (h : w.ownsRow base T 1 (.slice (some ⟨g, 0, none⟩) L.length c) L.length (bts L)) : ∀ j u, (bts L)[j]? = some u → w.cell? ((⟨g, 0, none⟩ : Addr).add j) = some u := h.cells rfl
theorem ownB_one (w : World) (base : Nat) (T : TypeId) (x : Int) (hb : base ≤ w.heap.size) : (w.alloc (.cells #[.int .u8 x] T)).ownsRow base T 1 (.slice (some ⟨w.heap.size, 0, none⟩) 1 1) [x].length (bts [x]) :=
 ⟨by simp [bts], .inr ⟨w.heap.size, 1, _, rfl, hb, heap_alloc_new w _, Nat.le_refl _, by simp [maxLen], by simp, by simp [bts]⟩⟩
theorem ownB_base {w : World} {base base' : Nat} {e : TypeId} {size : Nat} {v : Value} {n : Nat} {xs : List Value} (h : w.ownsRow base e size v n xs) (hb : base' ≤ base) : w.ownsRow base' e size v n xs := by
 refine ⟨h.1, ?_⟩
 rcases h.2 with h | ⟨g, cap, cur, h1, h2, h3⟩
 ·exact .inl h
 ·exact .inr ⟨g, cap, cur, h1, by omega, h3⟩
theorem Box8.drew {j : Nat} {w : World} {k fr tuu no lo hi sl : Int} {s : ByteArray} (h : Box8 w j k fr tuu no lo hi sl s) : Box8 w.drew j k fr tuu no lo hi sl s := h
theorem rng_app {L M : List Int} (h : ∀ y ∈ L, 0 ≤ y ∧ y ≤ 255) (h' : ∀ y ∈ M, 0 ≤ y ∧ y ≤ 255) : ∀ y ∈ L ++ M, 0 ≤ y ∧ y ≤ 255 := fun y hy => by
 rcases List.mem_append.1 hy with k | k
 ·exact h y k
 ·exact h' y k
theorem rng_at {L : List Int} (h : ∀ y ∈ L, 0 ≤ y ∧ y ≤ 255) : ∀ i, i < L.length → 0 ≤ L.getD i 0 ∧ L.getD i 0 ≤ 255 := fun i hi => h _ (by
 rw [List.getD_eq_getElem?_getD, List.getElem?_eq_getElem hi]; exact List.getElem_mem hi)
theorem msgB_from {k fr tuu no lo hi sl : Int} {s : ByteArray} (h : msgB k fr tuu no lo hi sl s = true) : 0 ≤ fr ∧ fr ≤ 7 ∧ 1 ≤ k ∧ k ≤ 3 ∧ s.size ≤ 24 := by
 have hf : nodB fr = true := by
  cases e : nodB fr
  ·rw [msg_from e] at h; cases h
  ·rfl
 have hz : s.size ≤ 24 := Decidable.not_not.1 fun e => by rw [msg_long e] at h; cases h
 have hk : k = 1 ∨ k = 2 ∨ k = 3 := by
  unfold msgB at h
  split at h
  ·omega
  ·split at h
   ·omega
   ·split at h
    ·omega
    ·cases h
 simp [nodB] at hf
 omega
theorem msgB_pair {k fr tuu no lo hi sl : Int} {s : ByteArray} (h : msgB k fr tuu no lo hi sl s = true) (hk : k ≠ 3) : 0 ≤ tuu ∧ tuu ≤ 7 ∧ 0 ≤ no ∧ no ≤ 100000999 := by
 have ha : adB fr tuu no = true := by
  unfold msgB at h
  split at h
  ·simp at h; exact h.1.1.1.1
  ·split at h
   ·simp at h; exact h.1.1.1
   ·first | (cases h; done) | (rw [if_neg hk] at h; cases h)
 simp [adB, nodB] at ha
 omega
theorem msgB_slot {fr tuu no lo hi sl : Int} {s : ByteArray} (h : msgB 3 fr tuu no lo hi sl s = true) : 0 ≤ sl ∧ sl ≤ 15 := by
 simp [msgB] at h; omega
theorem foldI_bd (x : Int) : 0 ≤ foldI x ∧ foldI x ≤ 2000000000000 := by
 unfold foldI
 split
 ·split <;> omega
 ·omega
theorem row_cells (w : World) (s : ByteArray) (cap : Nat) (T : TypeId) (fz : Nat × Nat) : ∀ j u, (bts (strL s))[j]? = some u → (w.drew.alloc (.cells (bytesRow s cap) T fz)).cell? ((⟨w.heap.size, 0, none⟩ : Addr).add j) = some u := by
 intro j u hu
 have hj : j < s.data.size := by
  have := (List.getElem?_eq_some_iff.1 hu).1
  rw [bts_len, strL_len] at this
  exact this
 have e : (⟨w.heap.size, 0, none⟩ : Addr).add j = ⟨w.drew.heap.size, j, none⟩ := by
  unfold Addr.add
  split
  ·next h => subst h; rfl
  ·simp
 rw [e, World.cell?_alloc_mark, bytesRow_at s cap j hj]
 have : (bts (strL s))[j]? = some (.int .u8 (s.data[j].toNat : Int)) := by simp [bts, strL]; exact ⟨_, Array.getElem?_eq_getElem hj, rfl⟩
 rw [this] at hu
 exact hu
theorem len3 (A B C : List Int) : (A ++ B ++ C).length = (A ++ B).length + C.length := List.length_append
theorem bts3 (A B C : List Int) : bts (A ++ B ++ C) = bts (A ++ B) ++ bts C := bts_app _ _
theorem packR_short (k fr tuu no lo hi sl : Int) (s : ByteArray) : (packR k fr tuu no lo hi sl s).length ≤ 100 := by
 cases hm : msgB k fr tuu no lo hi sl s
 ·simp [packR, hm]
 ·have hk := (msgB_from hm).2.2.2.2
  have a := putL_len fr
  have b := putL_len tuu
  have c := putL_len no
  have d := putL_len sl
  have e := putL_len s.size
  have f := putL_len (foldI lo)
  have g := putL_len (foldI hi)
  have h := strL_len s
  unfold packR packL addChk packB
  rw [if_pos hm]
  split <;> split <;> simp <;> omega
end Go.Proofs.YtddjiamollfplaaGreatDoor
namespace Go.Proofs.YtddjiamollfplaaGreatDoor
open Go.RowKit
set_option linter.unusedVariables false
def Rd (w : World) (p : Nat) (a : Option Addr) (m c : Nat) (f : Nat → Int) (x : Int) : Prop :=
 p < w.heap.size ∧ w.cell? ⟨p, 0, none⟩ = some (.slice a m c) ∧ w.cell? ⟨p, 1, none⟩ = some (.int .i64 x) ∧ w.frozen? ⟨p, 1, none⟩ = false ∧ 0 ≤ x ∧ x ≤ m ∧ m ≤ c ∧ c ≤ maxLen ∧ SrcB w a m f ∧ (∀ b o, a = some ⟨b, o, none⟩ → b < p) ∧ ∀ i, i < m → 0 ≤ f i ∧ f i ≤ 255
theorem SrcB.but {w w' : World} {p : Nat} {a : Option Addr} {n : Nat} {f : Nat → Int} (h : SrcB w a n f) (hb : But p w w') (hp : ∀ b o, a = some ⟨b, o, none⟩ → b < p) : SrcB w' a n f := by
 rcases h with h | ⟨b, off, h1, h2⟩
 ·exact .inl h
 ·have := hp b off h1
  exact .inr ⟨b, off, h1, Nat.lt_of_lt_of_le h2.1 hb.2.2.2.1, fun i hi => by rw [hb.cell h2.1 (by omega)]; exact h2.2 i hi⟩
theorem Rd.below {w w' : World} {p : Nat} {a : Option Addr} {m c : Nat} {f : Nat → Int} {x : Int} (h : Rd w p a m c f x) (hb : Below w.heap.size w w') : Rd w' p a m c f x := by
 obtain ⟨h0, h1, h2, h3, h4, h5, h6, h7, h8, h9, h10⟩ := h
 exact ⟨Nat.lt_of_lt_of_le h0 hb.size, by rw [hb.cell (p := ⟨p, 0, none⟩) h0]; exact h1, by rw [hb.cell (p := ⟨p, 1, none⟩) h0]; exact h2, by rw [hb.frozen (p := ⟨p, 1, none⟩) h0]; exact h3, h4, h5, h6, h7, h8.below hb, h9, h10⟩
theorem Rd.drew {w : World} {p : Nat} {a : Option Addr} {m c : Nat} {f : Nat → Int} {x : Int} (h : Rd w p a m c f x) : Rd w.drew p a m c f x := h
theorem Rd.set {w : World} {p : Nat} {a : Option Addr} {m c : Nat} {f : Nat → Int} {x : Int} (h : Rd w p a m c f x) (y : Int) (y0 : 0 ≤ y) (y1 : y ≤ m) : Rd (w.setCell ⟨p, 1, none⟩ (.int .i64 y)) p a m c f y := by
 obtain ⟨h0, h1, h2, h3, h4, h5, h6, h7, h8, h9, h10⟩ := h
 exact ⟨by simpa using h0, by rw [World.cell?_setCell_other _ _ _ _ (by simp)]; exact h1, World.cell?_setCell_same _ _ _ h2, by simpa using h3, y0, y1, h6, h7, h8.but ((But.refl p w).setCell 1 _) h9, h9, h10⟩
end Go.Proofs.YtddjiamollfplaaGreatDoor
namespace Go.Proofs.YtddjiamollfplaaGreatDoor
open Go.RowKit
set_option linter.unusedVariables false
theorem Rd.some {w : World} {p : Nat} {a : Option Addr} {m c : Nat} {f : Nat → Int} {x : Int} (h : Rd w p a m c f x) (hm : 1 ≤ m) : ∃ b off, a = some ⟨b, off, none⟩ ∧ b < p := by
 obtain ⟨h0, h1, h2, h3, h4, h5, h6, h7, h8, h9, h10⟩ := h
 rcases h8 with h8 | ⟨b, off, h8, _⟩
 ·omega
 ·exact ⟨b, off, h8, h9 b off h8⟩
end Go.Proofs.YtddjiamollfplaaGreatDoor
namespace Go.Proofs.YtddjiamollfplaaGreatDoor
open Go.RowKit
set_option linter.unusedVariables false
theorem Thaw8.drew {j : Nat} {w : World} (h : Thaw8 w j) : Thaw8 w.drew j := h
theorem Byts.drew {b off n : Nat} {w : World} {f : Nat → Int} (h : Byts w b off n f) : Byts w.drew b off n f := h
end Go.Proofs.YtddjiamollfplaaGreatDoor
namespace Go.Proofs.YtddjiamollfplaaGreatDoor
open Go.RowKit
set_option linter.unusedVariables false
theorem Box8.but {p j : Nat} {w w' : World} {k fr tuu no lo hi sl : Int} {s : ByteArray} (h : Box8 w j k fr tuu no lo hi sl s) (hb : But p w w') (hj : j ≠ p) : Box8 w' j k fr tuu no lo hi sl s := by
 obtain ⟨h0, h1, h2, h3, h4, h5, h6, h7, h8⟩ := h
 exact ⟨Nat.lt_of_lt_of_le h0 hb.2.2.2.1, by rw [hb.cell h0 hj]; exact h1, by rw [hb.cell h0 hj]; exact h2, by rw [hb.cell h0 hj]; exact h3, by rw [hb.cell h0 hj]; exact h4, by rw [hb.cell h0 hj]; exact h5, by rw [hb.cell h0 hj]; exact h6, by rw [hb.cell h0 hj]; exact h7, by rw [hb.cell h0 hj]; exact h8⟩
theorem Thaw8.but {p j : Nat} {w w' : World} (h : Thaw8 w j) (hb : But p w w') (h0 : j < w.heap.size) (hj : j ≠ p) : Thaw8 w' j := by
 obtain ⟨f0, f1, f2, f3, f4, f5, f6, f7⟩ := h
 exact ⟨by rw [hb.frozen h0 hj]; exact f0, by rw [hb.frozen h0 hj]; exact f1, by rw [hb.frozen h0 hj]; exact f2, by rw [hb.frozen h0 hj]; exact f3, by rw [hb.frozen h0 hj]; exact f4, by rw [hb.frozen h0 hj]; exact f5, by rw [hb.frozen h0 hj]; exact f6, by rw [hb.frozen h0 hj]; exact f7⟩
theorem Rd.setO {w : World} {p j : Nat} {a : Option Addr} {m c : Nat} {f : Nat → Int} {x : Int} (h : Rd w p a m c f x) (hj : p < j) (o : Nat) (u : Value) : Rd (w.setCell ⟨j, o, none⟩ u) p a m c f x := by
 obtain ⟨h0, h1, h2, h3, h4, h5, h6, h7, h8, h9, h10⟩ := h
 have hne : ∀ q, (⟨j, o, none⟩ : Addr) ≠ ⟨p, q, none⟩ := fun q e => by have : j = p := congrArg Addr.block e; omega
 refine ⟨by simpa using h0, by rw [World.cell?_setCell_other _ _ _ _ (hne _)]; exact h1, by rw [World.cell?_setCell_other _ _ _ _ (hne _)]; exact h2, by simpa using h3, h4, h5, h6, h7, ?_, h9, h10⟩
 rcases h8 with h8 | ⟨b, off, h8, hB⟩
 ·exact .inl h8
 ·have := h9 b off h8
  exact .inr ⟨b, off, h8, by simpa using hB.1, fun i hi => by rw [World.cell?_setCell_other _ _ _ _ (fun e => by have : j = b := congrArg Addr.block e; omega)]; exact hB.2 i hi⟩
end Go.Proofs.YtddjiamollfplaaGreatDoor
namespace Go.Proofs.YtddjiamollfplaaGreatDoor
open Go.RowKit
set_option linter.unusedVariables false
theorem packB_rng (k fr tu no lo hi sl : Int) (s : ByteArray) (hk : 1 ≤ k ∧ k ≤ 3) : ∀ z ∈ packB k fr tu no lo hi sl s, 0 ≤ z ∧ z ≤ 255 := by
 intro z hz
 unfold packB at hz
 rw [List.cons_append, List.cons_append] at hz
 rcases List.mem_cons.1 hz with rfl | hz
 ·omega
 rcases List.mem_append.1 hz with hz | hz
 ·rcases List.mem_append.1 hz with hz | hz
  ·exact putL_rng _ z hz
  ·split at hz
   ·rcases List.mem_append.1 hz with hz | hz
    ·rcases List.mem_append.1 hz with hz | hz
     ·exact putL_rng _ z hz
     ·exact putL_rng _ z hz
    ·exact strL_rng _ z hz
   ·rcases List.mem_append.1 hz with hz | hz
    ·exact putL_rng _ z hz
    ·exact putL_rng _ z hz
 ·split at hz
  ·rcases List.mem_append.1 hz with hz | hz
   ·exact putL_rng _ z hz
   ·exact putL_rng _ z hz
  ·simp at hz
theorem packL_rng (k fr tu no lo hi sl : Int) (s : ByteArray) (hk : 1 ≤ k ∧ k ≤ 3) : ∀ z ∈ packL k fr tu no lo hi sl s, 0 ≤ z ∧ z ≤ 255 := by
 intro z hz
 rcases List.mem_append.1 hz with hz | hz
 ·exact packB_rng k fr tu no lo hi sl s hk z hz
 ·simp at hz
  rw [hz]
  exact chk_bd (rng_at (packB_rng k fr tu no lo hi sl s hk))
theorem packL_two (k fr tu no lo hi sl : Int) (s : ByteArray) : 2 ≤ (packL k fr tu no lo hi sl s).length := by
 simp [packL, addChk, packB]
 omega
theorem packR_ok {k fr tu no lo hi sl : Int} {s : ByteArray} (h : msgB k fr tu no lo hi sl s = true) : packR k fr tu no lo hi sl s = packL k fr tu no lo hi sl s := by rw [packR, h]; rfl
end Go.Proofs.YtddjiamollfplaaGreatDoor
