/- Words joined; the line of what is told. -/
import Derived.Test.YtddjiamollfplaaDoorI220
import Derived.Test.YtddjiamollfplaaDoorX217
import Derived.Lib.Join
import Derived.WalkKit
import Derived.WalkSpells
import Derived.WalkLawsBesides
import Derived.Deep.RegionHeld
namespace Go.Proofs.YtddjiamollfplaaDoor
open Go.RowKit
set_option linter.unusedVariables false
/- Words joined by blanks; rows of texts of one's own. -/
def spB : ByteArray := ⟨#[32]⟩
def hoB : ByteArray := ⟨#[104, 111, 108, 100, 115]⟩
def jnB (L : List ByteArray) : ByteArray := ⟨(Go.Lib.join (L.map (·.data.toList)) spB.data.toList).toArray⟩
theorem jn_tail (x : ByteArray) (r : List ByteArray) : jnB (x :: r) = x ++ ⟨(Go.Lib.joinTail spB.data.toList (r.map (·.data.toList))).toArray⟩ := by
  apply ByteArray.ext
  rw [jnB, ByteArray.data_append, List.map_cons, Go.Lib.join_cons]
  simp
theorem jn1 (a : ByteArray) : jnB [a] = a := by
  rw [jn_tail]
  apply ByteArray.ext
  rw [ByteArray.data_append]
  simp [Go.Lib.joinTail]
theorem jn3 (a b c : ByteArray) : jnB [a, b, c] = a ++ spB ++ b ++ spB ++ c := by
  rw [jn_tail]
  apply ByteArray.ext
  apply Array.ext'
  simp [Go.Lib.joinTail, ByteArray.data_append]
theorem jn4 (a b c d : ByteArray) : jnB [a, b, c, d] = a ++ spB ++ b ++ spB ++ c ++ spB ++ d := by
  rw [jn_tail]
  apply ByteArray.ext
  apply Array.ext'
  simp [Go.Lib.joinTail, ByteArray.data_append]
theorem jn5 (a b c d f : ByteArray) : jnB [a, b, c, d, f] = a ++ spB ++ b ++ spB ++ c ++ spB ++ d ++ spB ++ f := by
  rw [jn_tail]
  apply ByteArray.ext
  apply Array.ext'
  simp [Go.Lib.joinTail, ByteArray.data_append]
theorem jnd_len (z : Nat) : ∀ (L : List ByteArray), (∀ x ∈ L, x.size ≤ z) → (Go.Lib.joinTail spB.data.toList (L.map (·.data.toList))).length ≤ L.length * (z + 1)
  | [], _ => by simp [Go.Lib.joinTail]
  | x :: L, h => by
    have q := jnd_len z L (fun y hy => h y (List.mem_cons_of_mem _ hy))
    have hx := h x (List.mem_cons_self ..)
    have e : (x.data.toList).length = x.size := Array.length_toList
    have e2 : spB.data.toList.length = 1 := rfl
    unfold Go.Lib.joinTail at *
    rw [List.map_cons, List.map_cons, List.flatten_cons, List.length_append, List.length_append, e, e2, List.length_cons, Nat.add_mul]
    omega
theorem jn_le {z : Nat} {L : List ByteArray} (h : ∀ x ∈ L, x.size ≤ z) : (Go.Lib.join (L.map (·.data.toList)) spB.data.toList).length ≤ L.length * (z + 1) := by
  cases L with
  | nil => simp [Go.Lib.join_nil]
  | cons x L =>
    have q := jnd_len z L (fun y hy => h y (List.mem_cons_of_mem _ hy))
    have hx := h x (List.mem_cons_self ..)
    have e : (x.data.toList).length = x.size := Array.length_toList
    rw [List.map_cons, Go.Lib.join_cons, List.length_append, e, List.length_cons, Nat.add_mul]
    omega
def stR (L : List ByteArray) : List Value := L.map Value.string
theorem stR_len (L : List ByteArray) : (stR L).length = L.length := by simp [stR]
theorem stR_one (L : List ByteArray) : ∀ u ∈ stR L, u.oneCell' = true := by
  intro u hu
  obtain ⟨x, _, rfl⟩ := List.mem_map.1 hu
  rfl
theorem info_str : (Tryd.prog.info? 9).map (fun i => (i.zero, i.size, i.bytes)) = some (some (.string ⟨#[]⟩), 1, 16) := by kernel_rfl
theorem own_strs {w : World} {base : Nat} {v : Value} {L : List ByteArray} (h : w.ownsRow base 9 1 v L.length (stR L)) (h0 : 0 < L.length) :
    ∃ g cap, v = .slice (some ⟨g, 0, none⟩) L.length cap ∧ g < w.heap.size ∧ L.length ≤ cap ∧ ∀ (j : Nat) x, L[j]? = some x → w.cell? ⟨g, 0 + j, none⟩ = some (.string x) := by
  rcases h.2 with ⟨_, h1⟩ | ⟨g, cap, cur, rfl, h1, h2, h3, h4, h5, h6⟩
  · omega
  · refine ⟨g, cap, rfl, (Array.getElem?_eq_some_iff.1 h2).1, h3, fun j x hx => ?_⟩
    have hj : j < L.length := (List.getElem?_eq_some_iff.1 hx).1
    rw [Nat.zero_add, World.ownsRow.cellAt h j (by omega), stR, List.getElem?_map, hx]
    rfl
theorem strs_new (w : World) (L : List ByteArray) (hL : L.length ≤ 64) : (w.alloc (.cells (stR L).toArray 9)).ownsRow w.heap.size 9 1 (.slice (some ⟨w.heap.size, 0, none⟩) L.length L.length) L.length (stR L) := by
  refine ⟨by rw [stR_len, Nat.mul_one], .inr ⟨w.heap.size, L.length, (stR L).toArray, rfl, Nat.le_refl _, ?_, Nat.le_refl _, by unfold maxLen; omega, by simp [stR], ?_⟩⟩
  · show (w.heap.push _)[w.heap.size]? = _
    exact Array.getElem?_push_size
  · simp only [stR, Nat.mul_one]
    exact List.take_of_length_le (by simp)
/- The line of what is told. -/
def bsdB (k nd cd : Int) : ByteArray := nmK k ++ spB ++ txI nd ++ spB ++ txI cd
def tlB (k nd cd v : Int) (hd : Bool) (nl nh : Int) : ByteArray :=
  if k = 1 ∨ (11 ≤ k ∧ k ≤ 14) then nmK k else if k < 1 ∨ 14 < k then ⟨#[]⟩ else if cd ≠ 0 then bsdB k nd cd else
  if k = 5 ∨ k = 9 then bsdB k nd cd ++ spB ++ txI v else if k = 8 then (if hd then bsdB k nd cd ++ spB ++ txI v ++ (spB ++ hoB) else bsdB k nd cd ++ spB ++ txI v) else if k = 7 then bsdB k nd cd ++ spB ++ ivT nl nh else bsdB k nd cd
def ocdL (k v : Int) (hd : Bool) (nl nh : Int) : List ByteArray :=
  if k = 5 ∨ k = 9 then [txI v] else if k = 8 then (if hd then [txI v, hoB] else [txI v]) else if k = 7 then [ivT nl nh] else []
def ondB (k : Int) : Bool := decide (2 ≤ k ∧ k ≤ 10)
def tlW (k nd cd v : Int) (hd : Bool) (nl nh : Int) : List ByteArray :=
  match ondB k with | false => [nmK k] | true => [nmK k, txI nd, txI cd] ++ (if cd = 0 then ocdL k v hd nl nh else [])
theorem tlW_t {k : Int} (nd cd v : Int) (hd : Bool) (nl nh : Int) (h : ondB k = true) : tlW k nd cd v hd nl nh = [nmK k, txI nd, txI cd] ++ (if cd = 0 then ocdL k v hd nl nh else []) := by rw [tlW, h]
theorem tlW_f {k : Int} (nd cd v : Int) (hd : Bool) (nl nh : Int) (h : ondB k = false) : tlW k nd cd v hd nl nh = [nmK k] := by rw [tlW, h]
theorem tlB_t {k : Int} (nd cd v : Int) (hd : Bool) (nl nh : Int) (h : 2 ≤ k ∧ k ≤ 10) : tlB k nd cd v hd nl nh = if cd ≠ 0 then bsdB k nd cd else
    if k = 5 ∨ k = 9 then bsdB k nd cd ++ spB ++ txI v else if k = 8 then (if hd then bsdB k nd cd ++ spB ++ txI v ++ (spB ++ hoB) else bsdB k nd cd ++ spB ++ txI v) else if k = 7 then bsdB k nd cd ++ spB ++ ivT nl nh else bsdB k nd cd := by
  unfold tlB
  rw [if_neg (show ¬ (k = 1 ∨ (11 ≤ k ∧ k ≤ 14)) by omega), if_neg (show ¬ (k < 1 ∨ 14 < k) by omega)]
theorem tl_jn (k nd cd v : Int) (hd : Bool) (nl nh : Int) : jnB (tlW k nd cd v hd nl nh) = tlB k nd cd v hd nl nh := by
  by_cases h : 2 ≤ k ∧ k ≤ 10
  · have e : ondB k = true := by unfold ondB; simp [h]
    rw [tlW_t nd cd v hd nl nh e, tlB_t nd cd v hd nl nh h]
    by_cases hc : cd = 0
    · rw [if_pos hc, if_neg (show ¬ cd ≠ 0 by omega)]
      unfold ocdL
      by_cases h5 : k = 5 ∨ k = 9
      · rw [if_pos h5, if_pos h5]
        show jnB [_, _, _, _] = _
        rw [jn4, bsdB]
      · rw [if_neg h5, if_neg h5]
        by_cases h8 : k = 8
        · rw [if_pos h8, if_pos h8]
          cases hd
          · show jnB [_, _, _, _] = _
            rw [jn4, bsdB]; rfl
          · show jnB [_, _, _, _, _] = _
            rw [jn5, bsdB]
            show _ = _ ++ (spB ++ hoB)
            rw [← ByteArray.append_assoc]
        · rw [if_neg h8, if_neg h8]
          by_cases h7 : k = 7
          · rw [if_pos h7, if_pos h7]
            show jnB [_, _, _, _] = _
            rw [jn4, bsdB]
          · rw [if_neg h7, if_neg h7]
            show jnB [_, _, _] = _
            rw [jn3, bsdB]
    · rw [if_neg hc, if_pos hc]
      show jnB [_, _, _] = _
      rw [jn3, bsdB]
  · have e : ondB k = false := by unfold ondB; simp; omega
    rw [tlW_f nd cd v hd nl nh e, jn1]
    unfold tlB
    by_cases h1 : k = 1 ∨ (11 ≤ k ∧ k ≤ 14)
    · rw [if_pos h1]
    · rw [if_neg h1, if_pos (by omega), nmK_no (by omega)]
theorem tlW_size (k nd cd v : Int) (hd : Bool) (nl nh : Int) : (∀ x ∈ tlW k nd cd v hd nl nh, x.size ≤ 44) ∧ (tlW k nd cd v hd nl nh).length ≤ 5 ∧ 0 < (tlW k nd cd v hd nl nh).length := by
  have e1 := nmK_size k
  have e2 := txI_size' nd
  have e3 := txI_size' cd
  have e4 := txI_size' v
  have e5 := ivT_size nl nh
  have e6 : hoB.size = 5 := rfl
  have ho : (∀ x ∈ ocdL k v hd nl nh, x.size ≤ 44) ∧ (ocdL k v hd nl nh).length ≤ 2 := by
    unfold ocdL
    repeat' split
    all_goals simp
    all_goals omega
  cases h : ondB k
  · rw [tlW_f nd cd v hd nl nh h]
    simp
    omega
  · rw [tlW_t nd cd v hd nl nh h]
    refine ⟨fun x hx => ?_, ?_, ?_⟩
    · rcases List.mem_append.1 hx with hx | hx
      · simp at hx; rcases hx with rfl | rfl | rfl <;> omega
      · split at hx
        · exact ho.1 x hx
        · exact absurd hx (by simp)
    · rw [List.length_append]
      have := ho.2
      split
      · show 3 + _ ≤ 5; omega
      · show 3 + 0 ≤ 5; omega
    · rw [List.length_append]
      show 0 < 3 + _
      omega
end Go.Proofs.YtddjiamollfplaaDoor
