/- Rows of structs in memory; the text of a mark. -/
import Derived.Laws.BytesArg
import Derived.Test.YtddjiamollfplaaDoorMS1
import Derived.Test.YtddjiamollfplaaDoorMS3
namespace Go.Proofs.YtddjiamollfplaaDoor
open Go.RowKit
set_option linter.unusedVariables false
theorem Below.nw (w : World) (o : Obj) : Below w.heap.size w (w.alloc o) := (Below.refl _ _).alloc (Nat.le_refl _) _
def Cs (w : World) (b off N : Nat) (F : Nat → Value) : Prop := b < w.heap.size ∧ ∀ j, j < N → w.cell? ⟨b, off + j, none⟩ = some (F j)
theorem Cs.below {w w' : World} {B b off N : Nat} {F : Nat → Value} (h : Cs w b off N F) (hb : Below B w w') (hB : b < B) : Cs w' b off N F :=
 ⟨Nat.lt_of_lt_of_le h.1 hb.size, fun j hj => by rw [hb.cell (p := ⟨b, off + j, none⟩) hB]; exact h.2 j hj⟩
theorem Cs.drew {w : World} {b off N : Nat} {F : Nat → Value} (h : Cs w b off N F) : Cs w.drew b off N F := h
theorem Cs.but {w w' : World} {p b off N : Nat} {F : Nat → Value} (h : Cs w b off N F) (hb : But p w w') (hp : b ≠ p) : Cs w' b off N F :=
 ⟨Nat.lt_of_lt_of_le h.1 hb.2.2.2.1, fun j hj => by rw [hb.cell h.1 hp]; exact h.2 j hj⟩
def SrcC (w : World) (a : Option Addr) (N : Nat) (F : Nat → Value) : Prop := N = 0 ∨ ∃ b off, a = some ⟨b, off, none⟩ ∧ Cs w b off N F
theorem SrcC.below {w w' : World} {a : Option Addr} {N : Nat} {F : Nat → Value} (h : SrcC w a N F) (hb : Below w.heap.size w w') : SrcC w' a N F := by
 rcases h with h | ⟨b, off, h1, h2⟩
 ·exact .inl h
 ·exact .inr ⟨b, off, h1, h2.below hb h2.1⟩
def RowF (w : World) (b : Nat) (T : TypeId) (N m : Nat) (F : Nat → Value) : Prop := ∃ g, w.rowIs b T N g ∧ ∀ j, j < m → g j = F j
theorem RowF.lt {w : World} {b N m : Nat} {T : TypeId} {F : Nat → Value} (h : RowF w b T N m F) : b < w.heap.size := by obtain ⟨g, hr, _⟩ := h; exact hr.lt
theorem RowF.below {w w' : World} {B b N m : Nat} {T : TypeId} {F : Nat → Value} (hb : Below B w w') (hB : b < B) (h : RowF w b T N m F) : RowF w' b T N m F := by
 obtain ⟨g, hr, hg⟩ := h
 exact ⟨g, hr.of_block (hb.block b hB), hg⟩
theorem RowF.below' {w w' : World} {b N m : Nat} {T : TypeId} {F : Nat → Value} (hb : Below w.heap.size w w') (h : RowF w b T N m F) : RowF w' b T N m F := RowF.below hb h.lt h
theorem RowF.zero {w : World} {b N m : Nat} {T : TypeId} {F : Nat → Value} (h : RowF w b T N m F) (G : Nat → Value) : RowF w b T N 0 G := by
 obtain ⟨g, hr, hg⟩ := h
 exact ⟨g, hr, fun j hj => absurd hj (Nat.not_lt_zero _)⟩
theorem RowF.facts {w : World} {b N m : Nat} {T : TypeId} {F : Nat → Value} (h : RowF w b T N m F) (j : Nat) (hj : j < N) : (∃ v, w.cell? ⟨b, j, none⟩ = some v) ∧ w.frozen? ⟨b, j, none⟩ = false := by
 obtain ⟨g, hr, hg⟩ := h
 exact ⟨⟨_, hr.cell hj⟩, hr.frozen _⟩
theorem RowF.put {w : World} {b N m : Nat} {T : TypeId} {F : Nat → Value} (h : RowF w b T N m F) (m' : Nat) (hm : m' = m + 1) {v : Value} (hv : F m = v) : RowF (w.setCell ⟨b, m, none⟩ v) b T N m' F := by
 obtain ⟨g, hr, hg⟩ := h
 refine ⟨_, hr.set _ _, fun j hj => ?_⟩
 by_cases e : j = m
 ·subst e; simp only [if_true]; exact hv.symm
 ·simp only [if_neg e]; exact hg j (by omega)
theorem RowF.setO {w : World} {b N m : Nat} {T : TypeId} {F : Nat → Value} (h : RowF w b T N m F) {k : Nat} (hk : k ≠ b) (o : Nat) (u : Value) : RowF (w.setCell ⟨k, o, none⟩ u) b T N m F := by
 obtain ⟨g, hr, hg⟩ := h
 exact ⟨g, hr.setOther (fun e => hk e.symm) u, hg⟩
theorem RowF.cs {w : World} {b N m : Nat} {T : TypeId} {F : Nat → Value} (h : RowF w b T N m F) (hm : m ≤ N) : Cs w b 0 m F := by
 obtain ⟨g, hr, hg⟩ := h
 exact ⟨hr.lt, fun j hj => by rw [Nat.zero_add, hr.cell (by omega), hg j hj]⟩
def digS (K : Nat) (s : ByteArray) : ByteArray := if h : K = 0 then s else digS (K / 10) (strOfNums [48 + (K : Int) % 10] ++ s)
termination_by K
decreasing_by omega
def txt (k : Int) : ByteArray := strOfNums [109] ++ digS k.toNat ⟨#[]⟩
theorem digS_go {K : Nat} {s : ByteArray} (h : K ≠ 0) : digS K s = digS (K / 10) (strOfNums [48 + (K : Int) % 10] ++ s) := by rw [digS, dif_neg h]
theorem digS_end {s : ByteArray} : digS 0 s = s := by rw [digS, dif_pos rfl]
set_option maxRecDepth 100000 in
set_option maxHeartbeats 2000000 in
theorem markText_any (k : Int) (w : World) (h0 : 0 < k) (h1 : k ≤ 1099511627776) :
 Calls Tryd.prog 80 #[.int .i64 k] w fun e w' => e = .returned (.string (txt k)) ∧ Below w.heap.size w w' := by
 obtain ⟨K0, rfl⟩ := Int.eq_ofNat_of_zero_le (show 0 ≤ k by omega)
 have HX : Hid (txt (K0 : Int) = strOfNums [109] ++ digS K0 ⟨#[]⟩) := rfl
 have hne : ¬ (K0 : Int) ≤ 0 := by omega
 go_enter Tryd.func80, Tryd.ntmps80
 go_wp2_with fail
 go_loopw [0, 3] (fun kv s wr => ∃ (K : Nat) (o : ByteArray), kv = .int .i64 K ∧ K ≤ K0 ∧ s = .string o ∧ o.size + K ≤ K0 ∧ digS K o = digS K0 ⟨#[]⟩ ∧ Below w.heap.size w wr) (fun kv _ _ => (intOf kv).toNat)
 case atStart => exact ⟨K0, ⟨#[]⟩, rfl, Nat.le_refl _, rfl, by simp [ByteArray.size], rfl, Below.refl _ _⟩
 case round =>
  obtain ⟨K, o, rfl, hK, rfl, hos, hd, hB⟩ := hrel
  have HD : Hid (digS K o = digS K0 ⟨#[]⟩) := hd
  clear hd
  by_cases hz : K = 0
  ·subst hz
   have hE : o = digS K0 ⟨#[]⟩ := by rw [← HD.out, digS_end]
   have hle : ¬ 9223372036854775807 < 1 + o.size := by omega
   subst hE
   go_wp2_with fail
   go_ret
   exact ⟨by rw [HX.out]; rfl, hB⟩
  ·have hz' : 0 < (K : Int) := by omega
   have hq : Int.tdiv (K : Int) 10 = ((K / 10 : Nat) : Int) := by rw [Int.tdiv_eq_ediv_of_nonneg (by omega)]; omega
   have hw8 : IntKind.u8.wrap (48 + (K : Int) % 10) = 48 + (K : Int) % 10 := Go.IntWalk.u8_in _ ⟨by omega, by omega⟩
   have HG := digS_go (s := o) hz
   have hcv : (convert 22 9 (.slice (some ⟨wr.heap.size, 0, none⟩) 1 1)).run Tryd.prog (wr.alloc (.cells #[.int .u8 (48 + (K : Int) % 10)] 5)) = .ok (.string (strOfNums [48 + (K : Int) % 10])) (wr.alloc (.cells #[.int .u8 (48 + (K : Int) % 10)] 5)) :=
    run_convert_bytes_arg _ 22 5 Tryd.underlying22 Tryd.underlying5 wr.heap.size 0 1 1 [48 + (K : Int) % 10] rfl (fun i hi => by (obtain rfl : i = 0 := by omega); simp) 9 Tryd.underlying9
   have hle : ¬ 9223372036854775807 < (strOfNums [48 + (K : Int) % 10]).size + o.size := by rw [strOfNums_size]; simp; omega
   have hz1 : (strOfNums [48 + (K : Int) % 10] ++ o).size = 1 + o.size := by rw [ByteArray.size_append, strOfNums_size]; rfl
   go_wp2_with fail
   go_roundw
   case rel => exact ⟨K / 10, _, by simp, by omega, rfl, by rw [hz1]; omega, by rw [← HG]; exact HD.out, hB.alloc hB.size _⟩
   case measure => simp [intOf]; omega
end Go.Proofs.YtddjiamollfplaaDoor
