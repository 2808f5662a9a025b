/- Rows of tells told by lists; an append of one. -/
import Derived.Test.YtbicpkelejjnjaaJ201
import Derived.Test.YtbicpkelejjnjaaI106
import Derived.WalkKit
import Derived.WalkSpells
import Derived.WalkLawsBesides
import Derived.Deep.RegionHeld
namespace Go.Proofs.Ytbicpkelejjnjaa
open Go.RowKit
set_option linter.unusedVariables false
theorem markToldS_own (a : Option Addr) (n c base : Nat) (q0 : Int) (xs : List Value) (w : World) (hn : n ≤ 1048576) (hq : 0 < q0) (hq1 : q0 ≤ 1073741824) (h : w.ownsRow base 39 10 (.slice a n c) n xs) :
    Calls Try.prog 12 #[.slice a n c, .int .i64 q0] w fun e w' => e = .returned (.int .i64 (q0 + (n : Int) * 10)) ∧ SrcC w' a (n * 10) (mkTold q0) ∧ w.grownBy w' (Value.slice a n c).ownBlock := by
  rcases h.2 with ⟨he, h0⟩ | ⟨g, cap, cur, he, _⟩
  · simp at he
    obtain ⟨rfl, rfl, rfl⟩ := he
    exact (markToldS_zero none 0 q0 w).mono fun e w' ⟨h1, h2⟩ => ⟨by rw [h1]; simp, .inl (by omega), h2 ▸ bel_grown (Below.refl _ _)⟩
  · simp at he
    obtain ⟨rfl, rfl⟩ := he
    obtain ⟨h1, h2, _, h3⟩ := ownF_row (mkTold q0) h
    exact (markToldS_row g (c * 10) n c q0 w hn hq hq1 (Nat.mul_le_mul_right _ h2) h3).mono fun e w' ⟨r1, r2, r3⟩ => ⟨r1, .inr ⟨g, 0, rfl, r2.cs (Nat.mul_le_mul_right _ h2)⟩, r3.grK⟩
def gTd (L : List TdT) (i : Nat) : TdT := L.getD i zTd
def trow (L : List TdT) : List Value := (List.range (L.length * 10)).map (MFTold (gTd L))
theorem gTd_old {L : List TdT} {p : TdT} {i : Nat} (h : i < L.length) : gTd (L ++ [p]) i = gTd L i := by rw [gTd, gTd, List.getD_eq_getElem?_getD, List.getD_eq_getElem?_getD, List.getElem?_append_left h]
theorem gTd_new (L : List TdT) (p : TdT) : gTd (L ++ [p]) L.length = p := by rw [gTd, List.getD_eq_getElem?_getD, List.getElem?_append_right (Nat.le_refl _), Nat.sub_self]; rfl
theorem trow_snoc (L : List TdT) (p : TdT) : trow (L ++ [p]) = trow L ++ [.int .i64 p.1, .int .i64 p.2.1, .int .i64 p.2.2.1, .int .i64 p.2.2.2.1, .bool p.2.2.2.2.1, .bool p.2.2.2.2.2.1, .int .i64 p.2.2.2.2.2.2.1, .int .i64 p.2.2.2.2.2.2.2.1, .int .i64 p.2.2.2.2.2.2.2.2.1, .int .i64 p.2.2.2.2.2.2.2.2.2] := by
  rw [trow, List.length_append, show [p].length = 1 from rfl, mapF_add, trow]
  congr 1
  · refine List.map_congr_left fun c hc => ?_
    have hc' : c < L.length * 10 := List.mem_range.1 hc
    show MCTold (gTd (L ++ [p]) (c / 10)) _ = MCTold (gTd L (c / 10)) _
    rw [gTd_old (by omega)]
  · show [MFTold (gTd (L ++ [p])) (L.length * 10 + 0), MFTold (gTd (L ++ [p])) (L.length * 10 + 1), MFTold (gTd (L ++ [p])) (L.length * 10 + 2), MFTold (gTd (L ++ [p])) (L.length * 10 + 3), MFTold (gTd (L ++ [p])) (L.length * 10 + 4), MFTold (gTd (L ++ [p])) (L.length * 10 + 5), MFTold (gTd (L ++ [p])) (L.length * 10 + 6), MFTold (gTd (L ++ [p])) (L.length * 10 + 7), MFTold (gTd (L ++ [p])) (L.length * 10 + 8), MFTold (gTd (L ++ [p])) (L.length * 10 + 9)] = _
    rw [MFTold_at _ _ 0 (by decide), MFTold_at _ _ 1 (by decide), MFTold_at _ _ 2 (by decide), MFTold_at _ _ 3 (by decide), MFTold_at _ _ 4 (by decide), MFTold_at _ _ 5 (by decide), MFTold_at _ _ 6 (by decide), MFTold_at _ _ 7 (by decide), MFTold_at _ _ 8 (by decide), MFTold_at _ _ 9 (by decide), gTd_new]
    rfl
theorem info_told : (Try.prog.info? 39).map (fun i => (i.zero, i.size, i.bytes)) = some (some (.agg #[.int .i64 0, .int .i64 0, .int .i64 0, .int .i64 0, .bool false, .bool false, .int .i64 0, .int .i64 0, .int .i64 0, .int .i64 0]), 10, 72) := by kernel_rfl
theorem told_at (w : World) (p : TdT) (T : TypeId) : ∀ j u, [.int .i64 p.1, .int .i64 p.2.1, .int .i64 p.2.2.1, .int .i64 p.2.2.2.1, .bool p.2.2.2.2.1, .bool p.2.2.2.2.2.1, .int .i64 p.2.2.2.2.2.2.1, .int .i64 p.2.2.2.2.2.2.2.1, .int .i64 p.2.2.2.2.2.2.2.2.1, .int .i64 p.2.2.2.2.2.2.2.2.2][j]? = some u → (w.alloc (.cells #[.int .i64 p.1, .int .i64 p.2.1, .int .i64 p.2.2.1, .int .i64 p.2.2.2.1, .bool p.2.2.2.2.1, .bool p.2.2.2.2.2.1, .int .i64 p.2.2.2.2.2.2.1, .int .i64 p.2.2.2.2.2.2.2.1, .int .i64 p.2.2.2.2.2.2.2.2.1, .int .i64 p.2.2.2.2.2.2.2.2.2] T)).cell? ((⟨w.heap.size, 0, none⟩ : Addr).add j) = some u := by
  intro j u h
  match j, h with
  | 0, h => simp at h; subst h; simp [Addr.add]
  | 1, h => simp at h; subst h; simp [Addr.add]
  | 2, h => simp at h; subst h; simp [Addr.add]
  | 3, h => simp at h; subst h; simp [Addr.add]
  | 4, h => simp at h; subst h; simp [Addr.add]
  | 5, h => simp at h; subst h; simp [Addr.add]
  | 6, h => simp at h; subst h; simp [Addr.add]
  | 7, h => simp at h; subst h; simp [Addr.add]
  | 8, h => simp at h; subst h; simp [Addr.add]
  | 9, h => simp at h; subst h; simp [Addr.add]
theorem add_told {w : World} {ops : Array Oper} {rest : List Oper} {o : Oper} {a : Act} {Q : Exit → Act → World → Prop} {p0 : Int} {p1 : Int} {p2 : Int} {p3 : Int} {p4 : Bool} {p5 : Bool} {p6 : Int} {p7 : Int} {p8 : Int} {p9 : Int} (hgd : o.guard = none) (s x : Operand)
    (ho : o.op = .call { callee := .builtin .append, args := #[s, x], argTypes := #[24, 24] }) (base : Nat) (L : List TdT) (v : Value) (hs : a.eval s = v) (hown : w.ownsRow base 39 10 v L.length (trow L))
    (hx : a.eval x = .slice (some ⟨w.heap.size, 0, none⟩) 1 1) (hL : L.length ≤ 1000) (hbase : base ≤ w.heap.size)
    (h : ∀ v' w', w'.ownsRow base 39 10 v' (L ++ [(p0, p1, p2, p3, p4, p5, p6, p7, p8, p9)]).length (trow (L ++ [(p0, p1, p2, p3, p4, p5, p6, p7, p8, p9)])) → w.grownBy w' v.ownBlock → (∀ g, v'.ownBlock = some g → v.ownBlock = some g ∨ w.heap.size ≤ g) → wpList Try.prog ops Q rest (a.put o.dst v') w') :
    wpList Try.prog ops Q (o :: rest) a (w.alloc (.cells #[.int .i64 p0, .int .i64 p1, .int .i64 p2, .int .i64 p3, .bool p4, .bool p5, .int .i64 p6, .int .i64 p7, .int .i64 p8, .int .i64 p9] 39)) := by
  obtain ⟨i0, hi, hz0, hz1, hz2⟩ := info_parts info_told
  refine wpList_append_new hgd s x 24 ho base 39 i0 (.agg #[.int .i64 0, .int .i64 0, .int .i64 0, .int .i64 0, .bool false, .bool false, .int .i64 0, .int .i64 0, .int .i64 0, .int .i64 0]) 10 72 Try.underlying24 hi hz0 hz1 hz2 rfl (by decide) v L.length (trow L) hs (World.ownsRow.alloc hown _) ⟨w.heap.size, 0, none⟩ 1 1 [.int .i64 p0, .int .i64 p1, .int .i64 p2, .int .i64 p3, .bool p4, .bool p5, .int .i64 p6, .int .i64 p7, .int .i64 p8, .int .i64 p9] hx rfl (told_at w (p0, p1, p2, p3, p4, p5, p6, p7, p8, p9) 39) (by intro u hu; simp at hu; rcases hu with rfl | rfl | rfl | rfl | rfl | rfl | rfl | rfl | rfl | rfl <;> rfl) (by unfold maxLen; omega) (by omega) (by simp; omega) ?_
  intro v' w' h1 h2 h3
  refine h v' w' (by rw [trow_snoc, List.length_append]; exact h1) ?_ (fun g hg => ?_)
  · exact ⟨h2.os, h2.tape, h2.output, Nat.le_trans (by simp) h2.size, fun k hk hne => (h2.block k (by simp; omega) hne).trans ((World.grownBy_alloc w _ none).block k hk (by simp))⟩
  · rcases h3 g hg with q | q
    · exact .inl q
    · exact .inr (by simp at q; omega)
theorem made_told (w : World) : (w.alloc (.cells #[] 39)).ownsRow w.heap.size 39 10 (.slice (some ⟨w.heap.size, 0, none⟩) 0 0) ([] : List TdT).length (trow []) := World.ownsRow_made w #[] 0 (Nat.le_refl _) (by simp [maxLen]) (by simp)
theorem nil_told (w : World) (B : Nat) : w.ownsRow B 39 10 (.slice none 0 0) ([] : List TdT).length (trow []) := World.ownsRow_nil w B 39 10
end Go.Proofs.Ytbicpkelejjnjaa
