/- What a packed message is. -/
import Derived.Test.YtddjiamollfplaaDoorG9
import Derived.Test.YtddjiamollfplaaDoorG10
import Derived.Test.YtddjiamollfplaaDoorG3
import Derived.Test.YtddjiamollfplaaDoorG4
import Derived.Test.YtddjiamollfplaaDoorG11
import Derived.Lib.AppendStr
import Derived.Laws.IdiomStrings
import Derived.WalkKit
import Derived.WalkSpells
import Derived.WalkLawsBesides
import Derived.Deep.RegionHeld
namespace Go.Proofs.YtddjiamollfplaaDoor
open Go.RowKit
set_option linter.unusedVariables false
def strL (s : ByteArray) : List Int := s.data.toList.map fun b => (b.toNat : Int)
theorem strL_len (s : ByteArray) : (strL s).length = s.size := by rw [strL, List.length_map, Array.length_toList]; rfl
theorem strL_cells (s : ByteArray) : Go.Lib.strCells s = bts (strL s) := by rw [Go.Lib.strCells, bts, strL, List.map_map]; rfl
theorem strL_rng (s : ByteArray) : ∀ z ∈ strL s, 0 ≤ z ∧ z ≤ 255 := by
  intro z hz
  simp [strL] at hz
  obtain ⟨b, _, rfl⟩ := hz
  have := b.toNat_lt
  omega
def packB (k fr to no lo hi sl : Int) (s : ByteArray) : List Int :=
  k :: putL fr ++ (if k = 3 then putL sl ++ putL s.size ++ strL s else putL to ++ putL no) ++ (if k = 2 then putL (foldI lo) ++ putL (foldI hi) else [])
def addChk (L : List Int) : List Int := L ++ [chk (fun i => L.getD i 0) L.length]
def packL (k fr to no lo hi sl : Int) (s : ByteArray) : List Int := addChk (packB k fr to no lo hi sl s)
def packR (k fr to no lo hi sl : Int) (s : ByteArray) : List Int := if msgB k fr to no lo hi sl s then packL k fr to no lo hi sl s else []
theorem bts_app (L M : List Int) : bts (L ++ M) = bts L ++ bts M := by simp [bts]
theorem bts_one (M : List Int) : ∀ u ∈ bts M, u.oneCell' = true := by
  intro u hu
  simp [bts] at hu
  obtain ⟨z, _, rfl⟩ := hu
  rfl
theorem putL_ne {x : Int} (h : 0 ≤ x) : putL x ≠ [] := by
  rw [putL, if_neg (by omega)]
  intro e
  unfold putN at e
  split at e <;> simp at e
theorem ownB_some {w : World} {base : Nat} {T : TypeId} {v : Value} {L : List Int} (h : w.ownsRow base T 1 v L.length (bts L)) (hne : L ≠ []) : ∃ g c, v = .slice (some ⟨g, 0, none⟩) L.length c := by
  rcases h.2 with ⟨_, h0⟩ | ⟨g, cap, cur, rfl, _⟩
  · exact absurd (List.eq_nil_of_length_eq_zero h0) hne
  · exact ⟨g, cap, rfl⟩
theorem ownB_cells {w : World} {base g c : Nat} {T : TypeId} {L : List Int} (h : w.ownsRow base T 1 (.slice (some ⟨g, 0, none⟩) L.length c) L.length (bts L)) : ∀ j u, (bts L)[j]? = some u → w.cell? ((⟨g, 0, none⟩ : Addr).add j) = some u := h.cells rfl
theorem ownB_one (w : World) (base : Nat) (T : TypeId) (x : Int) (hb : base ≤ w.heap.size) : (w.alloc (.cells #[.int .u8 x] T)).ownsRow base T 1 (.slice (some ⟨w.heap.size, 0, none⟩) 1 1) [x].length (bts [x]) :=
  ⟨by simp [bts], .inr ⟨w.heap.size, 1, _, rfl, hb, heap_alloc_new w _, Nat.le_refl _, by simp [maxLen], by simp, by simp [bts]⟩⟩
theorem ownB_base {w : World} {base base' : Nat} {e : TypeId} {size : Nat} {v : Value} {n : Nat} {xs : List Value} (h : w.ownsRow base e size v n xs) (hb : base' ≤ base) : w.ownsRow base' e size v n xs := by
  refine ⟨h.1, ?_⟩
  rcases h.2 with h | ⟨g, cap, cur, h1, h2, h3⟩
  · exact .inl h
  · exact .inr ⟨g, cap, cur, h1, by omega, h3⟩
theorem Box8.drew {j : Nat} {w : World} {k fr to no lo hi sl : Int} {s : ByteArray} (h : Box8 w j k fr to no lo hi sl s) : Box8 w.drew j k fr to no lo hi sl s := h
theorem rng_app {L M : List Int} (h : ∀ y ∈ L, 0 ≤ y ∧ y ≤ 255) (h' : ∀ y ∈ M, 0 ≤ y ∧ y ≤ 255) : ∀ y ∈ L ++ M, 0 ≤ y ∧ y ≤ 255 := fun y hy => by
  rcases List.mem_append.1 hy with k | k
  · exact h y k
  · exact h' y k
theorem rng_at {L : List Int} (h : ∀ y ∈ L, 0 ≤ y ∧ y ≤ 255) : ∀ i, i < L.length → 0 ≤ L.getD i 0 ∧ L.getD i 0 ≤ 255 := fun i hi => h _ (by
  rw [List.getD_eq_getElem?_getD, List.getElem?_eq_getElem hi]; exact List.getElem_mem hi)
theorem msgB_from {k fr to no lo hi sl : Int} {s : ByteArray} (h : msgB k fr to no lo hi sl s = true) : 0 ≤ fr ∧ fr ≤ 7 ∧ 1 ≤ k ∧ k ≤ 3 ∧ s.size ≤ 24 := by
  have hf : nodB fr = true := by
    cases e : nodB fr
    · rw [msg_from e] at h; cases h
    · rfl
  have hz : s.size ≤ 24 := Decidable.not_not.1 fun e => by rw [msg_long e] at h; cases h
  have hk : k = 1 ∨ k = 2 ∨ k = 3 := by
    unfold msgB at h
    split at h
    · omega
    · split at h
      · omega
      · split at h
        · omega
        · cases h
  simp [nodB] at hf
  omega
theorem msgB_pair {k fr to no lo hi sl : Int} {s : ByteArray} (h : msgB k fr to no lo hi sl s = true) (hk : k ≠ 3) : 0 ≤ to ∧ to ≤ 7 ∧ 0 ≤ no ∧ no ≤ 100000999 := by
  have ha : adB fr to no = true := by
    unfold msgB at h
    split at h
    · simp at h; exact h.1.1.1.1
    · split at h
      · simp at h; exact h.1.1.1
      · first | (cases h; done) | (rw [if_neg hk] at h; cases h)
  simp [adB, nodB] at ha
  omega
theorem msgB_said {fr to no lo hi sl : Int} {s : ByteArray} (h : msgB 2 fr to no lo hi sl s = true) : okI lo hi = true := by
  simp [msgB] at h; exact h.1.1.2
theorem msgB_slot {fr to no lo hi sl : Int} {s : ByteArray} (h : msgB 3 fr to no lo hi sl s = true) : 0 ≤ sl ∧ sl ≤ 15 := by
  simp [msgB] at h; omega
theorem foldI_bd (x : Int) : 0 ≤ foldI x ∧ foldI x ≤ 2000000000000 := by
  unfold foldI
  split
  · split <;> omega
  · omega
theorem row_cells (w : World) (s : ByteArray) (cap : Nat) (T : TypeId) (fz : Nat × Nat) : ∀ j u, (bts (strL s))[j]? = some u → (w.drew.alloc (.cells (bytesRow s cap) T fz)).cell? ((⟨w.heap.size, 0, none⟩ : Addr).add j) = some u := by
  intro j u hu
  have hj : j < s.data.size := by
    have := (List.getElem?_eq_some_iff.1 hu).1
    rw [bts_len, strL_len] at this
    exact this
  have e : (⟨w.heap.size, 0, none⟩ : Addr).add j = ⟨w.drew.heap.size, j, none⟩ := by
    unfold Addr.add
    split
    · next h => subst h; rfl
    · simp
  rw [e, World.cell?_alloc_mark, bytesRow_at s cap j hj]
  have : (bts (strL s))[j]? = some (.int .u8 (s.data[j].toNat : Int)) := by simp [bts, strL]; exact ⟨_, Array.getElem?_eq_getElem hj, rfl⟩
  rw [this] at hu
  exact hu
theorem len3 (A B C : List Int) : (A ++ B ++ C).length = (A ++ B).length + C.length := List.length_append
theorem bts3 (A B C : List Int) : bts (A ++ B ++ C) = bts (A ++ B) ++ bts C := bts_app _ _
theorem packR_len (k fr to no lo hi sl : Int) (s : ByteArray) (hs : s.size ≤ 1048576) : (packR k fr to no lo hi sl s).length ≤ 1048676 := by
  have a := putL_len fr
  have b := putL_len to
  have c := putL_len no
  have d := putL_len sl
  have e := putL_len s.size
  have f := putL_len (foldI lo)
  have g := putL_len (foldI hi)
  have h := strL_len s
  unfold packR packL addChk packB
  split
  · split <;> split <;> simp <;> omega
  · simp
theorem packR_short (k fr to no lo hi sl : Int) (s : ByteArray) : (packR k fr to no lo hi sl s).length ≤ 100 := by
  cases hm : msgB k fr to no lo hi sl s
  · simp [packR, hm]
  · have hk := (msgB_from hm).2.2.2.2
    have a := putL_len fr
    have b := putL_len to
    have c := putL_len no
    have d := putL_len sl
    have e := putL_len s.size
    have f := putL_len (foldI lo)
    have g := putL_len (foldI hi)
    have h := strL_len s
    unfold packR packL addChk packB
    rw [if_pos hm]
    split <;> split <;> simp <;> omega
end Go.Proofs.YtddjiamollfplaaDoor
