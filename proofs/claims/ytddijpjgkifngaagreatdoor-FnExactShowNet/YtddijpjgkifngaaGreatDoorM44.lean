/- Rows of texts; words joined; the words of what is under way. -/
import Derived.Test.YtddijpjgkifngaaGreatDoorM20
import Derived.Test.YtddijpjgkifngaaGreatDoorM36
namespace Go.Proofs.YtddijpjgkifngaaGreatDoor
open Go.RowKit
set_option linter.unusedVariables false
def nthB : ByteArray := ⟨#[110, 111, 116, 104, 105, 110, 103]⟩
def orN : List ByteArray → List ByteArray
 | [] => [nthB]
 | x :: L => x :: L
def rwL (f : Nat → ByteArray) : Nat → List ByteArray
 | 0 => []
 | k + 1 => rwL f k ++ [f k]
theorem rwL_len (f : Nat → ByteArray) : ∀ k, (rwL f k).length = k
 | 0 => rfl
 | k + 1 => by rw [rwL, List.length_append, rwL_len f k]; rfl
theorem rwL_all {f : Nat → ByteArray} {z : Nat} : ∀ {k}, (∀ i, i < k → (f i).size ≤ z) → ∀ x ∈ rwL f k, x.size ≤ z
 | 0, _, x, hx => by simp [rwL] at hx
 | k + 1, h, x, hx => by
  rw [rwL] at hx
  rcases List.mem_append.1 hx with q | q
  ·exact rwL_all (fun i hi => h i (by omega)) x q
  ·simp at q; subst q; exact h k (by omega)
theorem orN_of {L : List ByteArray} (h : 0 < L.length) : orN L = L := by
 cases L with
 | nil => exact absurd h (by simp)
 | cons x L => rfl
theorem orN_none {L : List ByteArray} (h : L.length = 0) : orN L = [nthB] := by
 cases L with
 | nil => rfl
 | cons x L => simp at h
theorem orN_pos (L : List ByteArray) : 0 < (orN L).length := by
 cases L <;> simp [orN]
theorem orN_all {L : List ByteArray} {z : Nat} (h : ∀ x ∈ L, x.size ≤ z) (hz : 7 ≤ z) : ∀ x ∈ orN L, x.size ≤ z := by
 cases L with
 | nil => intro x hx; simp [orN] at hx; subst hx; exact Nat.le_trans (by decide : nthB.size ≤ 7) hz
 | cons a L => exact h
theorem orN_len {L : List ByteArray} {n : Nat} (h : L.length ≤ n) (hn : 1 ≤ n) : (orN L).length ≤ n := by
 cases L with
 | nil => simpa [orN] using hn
 | cons a L => exact h
theorem jn_nil : jnB [] = ⟨#[]⟩ := by
 rw [jnB]
 simp [Go.Lib.join_nil]
theorem jn_snoc {L : List ByteArray} (x : ByteArray) (h : 0 < L.length) : jnB (L ++ [x]) = jnB L ++ spB ++ x := by
 cases L with
 | nil => exact absurd h (by simp)
 | cons a L =>
  rw [List.cons_append, jn_tail, jn_tail]
  apply ByteArray.ext
  apply Array.ext'
  simp [Go.Lib.joinTail, ByteArray.data_append]
theorem take_more {L : List ByteArray} {k : Nat} {x : ByteArray} (h : L[k]? = some x) : L.take (k + 1) = L.take k ++ [x] := by
 rw [List.take_add_one, h]; rfl
theorem jn_size {z : Nat} {L : List ByteArray} (h : ∀ x ∈ L, x.size ≤ z) : (jnB L).size ≤ L.length * (z + 1) := by
 have q := jn_le h
 show (jnB L).data.size ≤ _
 rw [jnB]
 simpa using q
theorem own_any {w : World} {base : Nat} {v : Value} {L : List ByteArray} (h : w.ownsRow base 9 1 v L.length (stR L)) :
 ∃ a cap, v = .slice a L.length cap ∧ ∀ (j : Nat) x, L[j]? = some x → ∃ g, a = some ⟨g, 0, none⟩ ∧ g < w.heap.size ∧ w.cell? ⟨g, 0 + j, none⟩ = some (.string x) := by
 rcases h.2 with ⟨hv, h0⟩ | ⟨g, cap, cur, hv, h1, h2, h3, h4, h5, h6⟩
 ·exact ⟨none, 0, by rw [h0]; exact hv, fun j x hx => absurd (List.getElem?_eq_some_iff.1 hx).1 (by omega)⟩
 ·refine ⟨some ⟨g, 0, none⟩, cap, hv, fun j x hx => ⟨g, rfl, (Array.getElem?_eq_some_iff.1 h2).1, ?_⟩⟩
  have hj : j < L.length := (List.getElem?_eq_some_iff.1 hx).1
  subst hv
  rw [Nat.zero_add, World.ownsRow.cellAt h j (by omega), stR, List.getElem?_map, hx]
  rfl
theorem grown_cellS {w0 w w' : World} {base n : Nat} {v : Value} {xs : List Value} (h : w0.ownsRow base 9 1 v n xs) (hg : w.grownBy w' v.ownBlock) {p : Addr} (hp : w0.heap.size ≤ p.block) (hlt : p.block < w.heap.size) : w'.cell? p = w.cell? p :=
 World.cell?_of_block (w := w) (hg.block p.block hlt (fun e => by have := (World.ownsRow.lt h p.block e.symm).2; omega))
attribute [-go_sem] loadCells storeCells in
set_option maxRecDepth 100000 in
set_option maxHeartbeats 16000000 in
theorem l22Join_any (L : List ByteArray) (v : Value) (w : World) (base : Nat) (h : w.ownsRow base 9 1 v L.length (stR L)) (hl : L.length ≤ 64) (hz : ∀ x ∈ L, x.size ≤ 130) :
 Calls Tryz.prog 42 #[v] w fun e w' => e = .returned (.string (jnB (orN L))) ∧ Below w.heap.size w w' := by
 obtain ⟨a, cap, rfl, hcell⟩ := own_any h
 have HC : Hid (∀ (j : Nat) x, L[j]? = some x → ∃ g, a = some ⟨g, 0, none⟩ ∧ g < w.heap.size ∧ w.cell? ⟨g, 0 + j, none⟩ = some (.string x)) := hcell
 have HP : Hid (0 < L.length → jnB (orN L) = jnB L) := fun q => by rw [orN_of q]
 have H0 : Hid (L.length = 0 → jnB (orN L) = nthB) := fun q => by rw [orN_none q, jn1]
 have HZ : Hid (∀ x ∈ L, x.size ≤ 130) := hz
 have HT : Hid (∀ k, k ≤ L.length → (jnB (L.take k)).size ≤ 64 * 131) := fun k hk => by
  have q := jn_size (L := L.take k) (z := 130) (fun x hx => hz x (List.mem_of_mem_take hx))
  have e : (L.take k).length = k := by rw [List.length_take]; omega
  rw [e] at q
  exact Nat.le_trans q (Nat.mul_le_mul_right 131 (by omega))
 have hfull : jnB (L.take L.length) = jnB L := by rw [List.take_length]
 have HF : Hid (jnB (L.take L.length) = jnB L) := hfull
 have hM : (L.length : Int) ≤ 9223372036854775807 := by omega
 clear h hz hcell hfull
 generalize jnB (orN L) = X at *
 have B := Below.refl w.heap.size w
 go_enter Tryz.func42, Tryz.ntmps42
 go_upto_region 3 with fail
 go_loopw [3, 4] (fun o i wr => ∃ (k : Nat) (p : ByteArray), k ≤ L.length ∧ i = .int .i64 (k : Int) ∧ o = .string p ∧ p = jnB (L.take k) ∧ Below w.heap.size w wr) (fun _ i _ => L.length - (intOf i).toNat)
 case atStart => exact ⟨0, ⟨#[]⟩, Nat.zero_le _, rfl, rfl, by rw [List.take_zero, jn_nil], B⟩
 case round =>
  clear B
  obtain ⟨k, p, hk, rfl, rfl, hp, B⟩ := hrel
  have hpz : p.size ≤ 8384 := by rw [hp]; exact HT.out k hk
  have HQ : Hid (p = jnB (L.take k)) := hp
  clear hp
  by_cases hlt : k < L.length
  ·have hli : (k : Int) < (L.length : Int) := by omega
   obtain ⟨x, hx⟩ : ∃ x, L[k]? = some x := ⟨L[k], List.getElem?_eq_getElem hlt⟩
   obtain ⟨g, rfl, hg, hc⟩ := HC.out k x hx
   have hxz : x.size ≤ 130 := HZ.out x (List.mem_of_getElem? hx)
   replace hc := (B.cell (p := ⟨g, 0 + k, none⟩) hg).trans hc
   have HX : Hid (L.take (k + 1) = L.take k ++ [x]) := take_more hx
   have e1 : (⟨#[32]⟩ : ByteArray).size = 1 := rfl
   have a1 : ¬ 9223372036854775807 < p.size + 1 := by omega
   have a2 : ¬ 9223372036854775807 < p.size + x.size := by omega
   have a3 : ¬ 9223372036854775807 < p.size + 1 + x.size := by omega
   clear hx hpz hxz
   by_cases h0 : k = 0
   ·subst h0
    have HN : Hid (p ++ x = jnB (L.take 1)) := by (show p ++ x = _; rw [HX.out, HQ.out, List.take_zero, jn_nil, List.nil_append, jn1]; apply ByteArray.ext; simp [ByteArray.data_append])
    have hd : ¬ (0 : Int) < 0 := by omega
    clear HX HQ
    go_wp2_with fail
    go_roundw
    case rel => exact ⟨1, _, by omega, by go_num, rfl, HN.out, B⟩
    case measure => simp [intOf]; omega
   ·have HN : Hid (p ++ ⟨#[32]⟩ ++ x = jnB (L.take (k + 1))) := by (show p ++ ⟨#[32]⟩ ++ x = _; rw [HX.out, jn_snoc x (by rw [List.length_take]; omega), ← HQ.out]; rfl)
    have hd : (0 : Int) < (k : Int) := by omega
    rw [Nat.zero_add] at hc
    clear HX HQ
    go_wp2_with fail
    go_roundw
    case rel => exact ⟨k + 1, _, by omega, by go_num, rfl, HN.out, B⟩
    case measure => simp [intOf]; omega
  have hkn : k = L.length := by omega
  have hli : ¬ (k : Int) < (L.length : Int) := by omega
  have HE : Hid (p = jnB L) := by (show p = _; rw [HQ.out, hkn, HF.out])
  clear HQ HC HZ HT HF hpz
  by_cases h0 : L.length = 0
  ·have hd : ((L.length : Int) == 0) = true := by simp [h0]
   have HR := H0.out h0
   clear HP H0 HE h0 hkn
   go_wp2_with fail
   go_ret
   exact ⟨by first | (rw [HR]; rfl) | rfl, B⟩
  ·have hd : ((L.length : Int) == 0) = false := by rw [beq_eq_false_iff_ne]; omega
   have HR := HP.out (by omega)
   have HR2 : Hid (X = p) := by (show X = p; rw [HR, HE.out])
   clear HP H0 HE h0 hkn HR
   go_wp2_with fail
   go_ret
   exact ⟨by first | (rw [HR2.out]; rfl) | rw [HR2.out], B⟩
attribute [-go_sem] loadCells storeCells in
set_option maxRecDepth 100000 in
set_option maxHeartbeats 16000000 in
theorem orNothing_any (L : List ByteArray) (v : Value) (w : World) (base : Nat) (h : w.ownsRow base 9 1 v L.length (stR L)) (hb0 : base ≤ w.heap.size) (hl : L.length ≤ 64) :
 Calls Tryz.prog 79 #[v] w fun e w' => ∃ u, e = .returned u ∧ w'.ownsRow base 9 1 u (orN L).length (stR (orN L)) ∧ Below w.heap.size w w' := by
 obtain ⟨a, cap, hv, _⟩ := own_any h
 have HO : Hid (w.ownsRow base 9 1 v L.length (stR L)) := h
 have O0 := strs_new w [nthB] (by show (1 : Nat) ≤ 64; omega)
 have b2 := Below.nw w (.cells (stR [nthB]).toArray 9)
 have hM : (L.length : Int) ≤ 9223372036854775807 := by omega
 clear h
 subst hv
 by_cases h0 : L.length = 0
 ·have hd : ((L.length : Int) == 0) = true := by simp [h0]
  have HE : Hid (orN L = [nthB]) := orN_none h0
  clear HO h0
  go_enter Tryz.func79, Tryz.ntmps79
  go_wp2_with fail
  go_ret
  refine ⟨_, rfl, ?_, b2⟩
  rw [HE.out]
  exact own_baseX O0 hb0
 ·have hd : ((L.length : Int) == 0) = false := by rw [beq_eq_false_iff_ne]; omega
  have HE : Hid (orN L = L) := orN_of (by omega)
  clear h0 O0 b2
  have B := Below.refl w.heap.size w
  go_enter Tryz.func79, Tryz.ntmps79
  go_wp2_with fail
  go_ret
  refine ⟨_, rfl, ?_, B⟩
  rw [HE.out]
  exact HO.out
attribute [-go_sem] loadCells storeCells in
set_option maxRecDepth 100000 in
set_option maxHeartbeats 16000000 in
theorem joinedB_any (L : List ByteArray) (v : Value) (w : World) (base : Nat) (h : w.ownsRow base 9 1 v L.length (stR L)) (h0 : 0 < L.length) (hl : L.length ≤ 64) (hz : ∀ x ∈ L, x.size ≤ 130) :
 Calls Tryz.prog 34 #[v] w fun e w' => e = .returned (.string (jnB L)) ∧ Below w.heap.size w w' := by
 obtain ⟨g, cap, rfl, hg, hcap, hcells⟩ := own_strs h h0
 have hlen := jn_le hz
 have hle : (Go.Lib.join (L.map (·.data.toList)) spB.data.toList).length ≤ 140737488355328 := Nat.le_trans hlen (Nat.le_trans (Nat.mul_le_mul_right 131 hl) (by decide))
 have CJ := Any.strings_Join joinA joinX g 0 cap L spB w hcells hg (by omega) hcap hle
 change Calls Tryz.prog 67 #[.slice (some ⟨g, 0, none⟩) L.length cap, .string ⟨#[32]⟩] w (fun e w' => e = .returned (.string (jnB L)) ∧ Below w.heap.size w w') at CJ
 generalize jnB L = X at *
 clear hcells hlen hle h hz
 generalize L.length = n at *
 go_enter Tryz.func34, Tryz.ntmps34
 go_wp2_with fail
 refine CJ.mono ?_
 rintro e w1 ⟨rfl, hb⟩
 go_wp2_with fail
 go_ret
 exact ⟨rfl, hb⟩
def i64B (n : Int) : Prop := -9223372036854775808 ≤ n ∧ n ≤ 9223372036854775807
end Go.Proofs.YtddijpjgkifngaaGreatDoor
