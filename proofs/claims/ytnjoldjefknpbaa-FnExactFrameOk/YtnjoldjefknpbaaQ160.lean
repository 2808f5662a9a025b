/- Rows of frames of ones own: an append of one, a copy. -/
import Derived.Test.YtnjoldjefknpbaaQ153
import Derived.Laws.OwnMore
import Derived.Deep.DeepAppendRoom
import Derived.WalkKit
import Derived.WalkSpells
import Derived.WalkLawsBesides
import Derived.Deep.RegionHeld
namespace Go.Proofs.Ytnjoldjefknpbaa
open Go.RowKit
set_option linter.unusedVariables false
/- Rows of frames of one's own, as cells; one frame more. -/
def brow (M : Nat → FrT) (n : Nat) : List Value := (List.range (n * 6)).map (MFFrame M)
theorem brow_len (M : Nat → FrT) (n : Nat) : (brow M n).length = n * 6 := by rw [brow, List.length_map, List.length_range]
theorem brow_get {M : Nat → FrT} {n j : Nat} {u : Value} (h : (brow M n)[j]? = some u) : j < n * 6 ∧ MFFrame M j = u := by
  rw [brow, List.getElem?_map] at h
  by_cases hj : j < n * 6
  · rw [List.getElem?_range hj] at h
    exact ⟨hj, by simpa using h⟩
  · rw [List.getElem?_eq_none (by rw [List.length_range]; omega)] at h
    simp at h
theorem brow_one (M : Nat → FrT) (n : Nat) : ∀ u ∈ brow M n, u.oneCell' = true := by
  intro u hu
  rw [brow, List.mem_map] at hu
  obtain ⟨j, _, rfl⟩ := hu
  have h : j % 6 = 0 ∨ j % 6 = 1 ∨ j % 6 = 2 ∨ j % 6 = 3 ∨ j % 6 = 4 ∨ j % 6 = 5 := by omega
  unfold MFFrame
  rcases h with h | h | h | h | h | h <;> rw [h] <;> rfl
theorem brow_congr {M N : Nat → FrT} {n : Nat} (h : ∀ i, i < n → M i = N i) : brow M n = brow N n := by
  unfold brow
  refine List.map_congr_left fun j hj => ?_
  rw [List.mem_range] at hj
  unfold MFFrame
  rw [h (j / 6) (by omega)]
theorem brow_add {M : Nat → FrT} {k : Nat} {x0 x1 x2 x3 x4 : Int} {x5 : ByteArray} (h : M k = (x0, x1, x2, x3, x4, x5)) : brow M (k + 1) = brow M k ++ [.int .i64 x0, .int .i64 x1, .int .i64 x2, .int .i64 x3, .int .i64 x4, .string x5] := by
  obtain ⟨q0, q1, q2, q3, q4, q5⟩ := MFFrame_vals h
  unfold brow
  rw [show (k + 1) * 6 = k * 6 + 1 + 1 + 1 + 1 + 1 + 1 by omega, List.range_succ, List.range_succ, List.range_succ, List.range_succ, List.range_succ, List.range_succ]
  simp only [List.map_append, List.map_cons, List.map_nil, List.append_assoc, List.cons_append, List.nil_append]
  rw [q0, q1, q2, q3, q4, q5]
def buP (M : Nat → FrT) (n : Nat) (x : FrT) (i : Nat) : FrT := match decide (i < n) with | true => M i | false => x
theorem buP_old {M : Nat → FrT} {n i : Nat} {x : FrT} (h : i < n) : buP M n x i = M i := by rw [buP, decide_eq_true h]
theorem buP_new (M : Nat → FrT) (n : Nat) (x : FrT) : buP M n x n = x := by rw [buP, decide_eq_false (Nat.lt_irrefl _)]
theorem brow_put (M : Nat → FrT) (n : Nat) (x0 x1 x2 x3 x4 : Int) (x5 : ByteArray) : brow (buP M n (x0, x1, x2, x3, x4, x5)) (n + 1) = brow M n ++ [.int .i64 x0, .int .i64 x1, .int .i64 x2, .int .i64 x3, .int .i64 x4, .string x5] := by
  rw [brow_add (buP_new M n (x0, x1, x2, x3, x4, x5)), brow_congr (M := buP M n _) (N := M) fun i hi => buP_old hi]
theorem addr_add15 (b off j : Nat) : (⟨b, off, none⟩ : Addr).add j = ⟨b, off + j, none⟩ := by
  unfold Addr.add
  split
  · next h => subst h; rfl
  · rfl
theorem Cs.brow {w : World} {b off n : Nat} {M : Nat → FrT} (h : Cs w b off (n * 6) (MFFrame M)) : ∀ j u, (Go.Proofs.Ytnjoldjefknpbaa.brow M n)[j]? = some u → w.cell? ((⟨b, off, none⟩ : Addr).add j) = some u := by
  intro j u hu
  obtain ⟨hj, rfl⟩ := brow_get hu
  rw [addr_add15]
  exact h.2 j hj
theorem info15_parts : ∃ i, Try.prog.info? 33 = some i ∧ i.zero = some (.agg #[.int .i64 0, .int .i64 0, .int .i64 0, .int .i64 0, .int .i64 0, .string ⟨#[]⟩]) ∧ i.size = 6 ∧ i.bytes = 56 := by
  obtain ⟨i, hi, hz⟩ := Option.map_eq_some_iff.1 infoFrame
  simp only [Prod.mk.injEq] at hz
  exact ⟨i, hi, hz.1, hz.2.1, hz.2.2⟩
theorem frame_at (w : World) (x0 x1 x2 x3 x4 : Int) (x5 : ByteArray) (T : TypeId) : ∀ j u, (([.int .i64 x0, .int .i64 x1, .int .i64 x2, .int .i64 x3, .int .i64 x4, .string x5] : List Value))[j]? = some u → (w.alloc (.cells #[.int .i64 x0, .int .i64 x1, .int .i64 x2, .int .i64 x3, .int .i64 x4, .string x5] T)).cell? ((⟨w.heap.size, 0, none⟩ : Addr).add j) = some u := by
  intro j u h
  match j, h with
  | 0, h => simp at h; subst h; simp [Addr.add]
  | 1, h => simp at h; subst h; simp [Addr.add]
  | 2, h => simp at h; subst h; simp [Addr.add]
  | 3, h => simp at h; subst h; simp [Addr.add]
  | 4, h => simp at h; subst h; simp [Addr.add]
  | 5, h => simp at h; subst h; simp [Addr.add]
theorem add_frame {w : World} {ops : Array Oper} {rest : List Oper} {o : Oper} {a : Act} {Q : Exit → Act → World → Prop} {x0 x1 x2 x3 x4 : Int} {x5 : ByteArray} (hgd : o.guard = none) (s x : Operand)
    (ho : o.op = .call { callee := .builtin .append, args := #[s, x], argTypes := #[24, 24] }) (base : Nat) (M : Nat → FrT) (n : Nat) (v : Value) (hs : a.eval s = v) (hown : w.ownsRow base 33 6 v n (brow M n))
    (hx : a.eval x = .slice (some ⟨w.heap.size, 0, none⟩) 1 1) (hL : n ≤ 4096) (hbase : base ≤ w.heap.size)
    (h : ∀ v' w', w'.ownsRow base 33 6 v' (n + 1) (brow (buP M n (x0, x1, x2, x3, x4, x5)) (n + 1)) → w.grownBy w' v.ownBlock → (∀ g, v'.ownBlock = some g → v.ownBlock = some g ∨ w.heap.size ≤ g) → wpList Try.prog ops Q rest (a.put o.dst v') w') :
    wpList Try.prog ops Q (o :: rest) a (w.alloc (.cells #[.int .i64 x0, .int .i64 x1, .int .i64 x2, .int .i64 x3, .int .i64 x4, .string x5] 33)) := by
  obtain ⟨i0, hi, hz0, hz1, hz2⟩ := info15_parts
  refine wpList_append_new hgd s x 24 ho base 33 i0 _ 6 56 Try.underlying24 hi hz0 hz1 hz2 rfl (by decide) v n (brow M n) hs (World.ownsRow.alloc hown _) ⟨w.heap.size, 0, none⟩ 1 1 [.int .i64 x0, .int .i64 x1, .int .i64 x2, .int .i64 x3, .int .i64 x4, .string x5] hx rfl (frame_at w x0 x1 x2 x3 x4 x5 33) (by intro u hu; simp at hu; rcases hu with rfl | rfl | rfl | rfl | rfl | rfl <;> rfl) (by unfold maxLen; omega) (by omega) (by simp; omega) ?_
  intro v' w' h1 h2 h3
  refine h v' w' (by rw [brow_put]; exact h1) ?_ (fun g hg => ?_)
  · exact ⟨h2.os, h2.tape, h2.output, Nat.le_trans (by simp) h2.size, fun k hk hne => (h2.block k (by simp; omega) hne).trans ((World.grownBy_alloc w _ none).block k hk (by simp))⟩
  · rcases h3 g hg with q | q
    · exact .inl q
    · exact .inr (by simp at q; omega)
theorem made_frame (w : World) (M : Nat → FrT) : (w.alloc (.cells #[] 33)).ownsRow w.heap.size 33 6 (.slice (some ⟨w.heap.size, 0, none⟩) 0 0) 0 (brow M 0) := World.ownsRow_made w #[] 0 (Nat.le_refl _) (by simp [maxLen]) (by simp)
/- A copy of a list of frames behind a row of one's own that is empty. -/
theorem copy_frames {w : World} {ops : Array Oper} {rest : List Oper} {o : Oper} {a : Act} {Q : Exit → Act → World → Prop} (hgd : o.guard = none) (s x : Operand)
    (ho : o.op = .call { callee := .builtin .append, args := #[s, x], argTypes := #[24, 24] }) (base : Nat) (M : Nat → FrT) (v : Value) (hs : a.eval s = v) (hown : w.ownsRow base 33 6 v 0 (brow M 0))
    (A : Option Addr) (n c : Nat) (hx : a.eval x = .slice A n c) (hA : (A = none ∧ n = 0 ∧ c = 0) ∨ ∃ b off, A = some ⟨b, off, none⟩ ∧ (n = 0 ∨ Cs w b off (n * 6) (MFFrame M))) (hL : n ≤ 4096) (hbase : base ≤ w.heap.size)
    (h : ∀ v' w', w'.ownsRow base 33 6 v' n (brow M n) → w.grownBy w' v.ownBlock → wpList Try.prog ops Q rest (a.put o.dst v') w') :
    wpList Try.prog ops Q (o :: rest) a w := by
  obtain ⟨i0, hi, hz0, hz1, hz2⟩ := info15_parts
  rcases hA with ⟨rfl, rfl, rfl⟩ | ⟨b, off, rfl, hC⟩
  · have hr := run_append_owned_none (P := Try.prog) (w := w) base 24 o.type 33 i0 6 Try.underlying24 hi v 0 (brow M 0) hown
    refine wpList_plain hgd fun _ hK => ?_
    unfold Oper.wp execOp
    simp only [ho, resolve, invoke, builtin, Sem.run_bind, Sem.run_pure, Result.andThen_ok, List.map_toArray, List.map_cons, List.map_nil, hs, hx, hr]
    exact hK _ _ (h v w hown ⟨rfl, rfl, rfl, Nat.le_refl _, fun _ _ _ => rfl⟩)
  · have hcells : ∀ j u, (brow M n)[j]? = some u → w.cell? ((⟨b, off, none⟩ : Addr).add j) = some u := by
      rcases hC with rfl | hC
      · intro j u hu; have := (brow_get hu).1; omega
      · exact hC.brow
    refine wpList_append_new hgd s x 24 ho base 33 i0 _ 6 56 Try.underlying24 hi hz0 hz1 hz2 rfl (by decide) v 0 (brow M 0) hs hown ⟨b, off, none⟩ n c (brow M n) hx (brow_len M n) hcells (brow_one M n) (by unfold maxLen; omega) (by omega) hbase ?_
    intro v' w' h1 h2 _
    refine h v' w' ?_ h2
    rw [Nat.zero_add] at h1
    exact h1
end Go.Proofs.Ytnjoldjefknpbaa
