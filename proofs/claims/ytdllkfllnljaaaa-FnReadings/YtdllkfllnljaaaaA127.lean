/- Rows of readings told by lists; an append of one. -/
import Derived.Test.YtdllkfllnljaaaaA124
import Derived.Test.YtdllkfllnljaaaaI106
import Derived.WalkKit
import Derived.WalkSpells
import Derived.WalkLawsBesides
import Derived.Deep.RegionHeld
namespace Go.Proofs.Ytdllkfllnljaaaa
open Go.RowKit
set_option linter.unusedVariables false
/- Rows of readings told by a list; an append of one reading. -/
def gG (L : List RgT) (i : Nat) : RgT := L.getD i zRg
def grow (L : List RgT) : List Value := (List.range (L.length * 3)).map (MFReading (gG L))
theorem gG_old {L : List RgT} {p : RgT} {i : Nat} (h : i < L.length) : gG (L ++ [p]) i = gG L i := by rw [gG, gG, List.getD_eq_getElem?_getD, List.getD_eq_getElem?_getD, List.getElem?_append_left h]
theorem gG_new (L : List RgT) (p : RgT) : gG (L ++ [p]) L.length = p := by rw [gG, List.getD_eq_getElem?_getD, List.getElem?_append_right (Nat.le_refl _), Nat.sub_self]; rfl
theorem grow_snoc (L : List RgT) (p : RgT) : grow (L ++ [p]) = grow L ++ [.int .i64 p.1, .bool p.2.1, .int .i64 p.2.2] := by
  rw [grow, List.length_append, show [p].length = 1 from rfl, mapF_add, grow]
  congr 1
  · refine List.map_congr_left fun c hc => ?_
    have hc' : c < L.length * 3 := List.mem_range.1 hc
    show MCReading (gG (L ++ [p]) (c / 3)) _ = MCReading (gG L (c / 3)) _
    rw [gG_old (by omega)]
  · show [MFReading (gG (L ++ [p])) (L.length * 3 + 0), MFReading (gG (L ++ [p])) (L.length * 3 + 1), MFReading (gG (L ++ [p])) (L.length * 3 + 2)] = _
    rw [MFReading_at _ _ 0 (by decide), MFReading_at _ _ 1 (by decide), MFReading_at _ _ 2 (by decide), gG_new]
    rfl
theorem reading_at (w : World) (p : RgT) (T : TypeId) : ∀ j u, [.int .i64 p.1, .bool p.2.1, .int .i64 p.2.2][j]? = some u → (w.alloc (.cells #[.int .i64 p.1, .bool p.2.1, .int .i64 p.2.2] T)).cell? ((⟨w.heap.size, 0, none⟩ : Addr).add j) = some u := by
  intro j u h
  match j, h with
  | 0, h => simp at h; subst h; simp [Addr.add]
  | 1, h => simp at h; subst h; simp [Addr.add]
  | 2, h => simp at h; subst h; simp [Addr.add]
theorem add_reading {w : World} {ops : Array Oper} {rest : List Oper} {o : Oper} {a : Act} {Q : Exit → Act → World → Prop} {p0 : Int} {p1 : Bool} {p2 : Int} (hgd : o.guard = none) (s x : Operand)
    (ho : o.op = .call { callee := .builtin .append, args := #[s, x], argTypes := #[34, 34] }) (base : Nat) (L : List RgT) (v : Value) (hs : a.eval s = v) (hown : w.ownsRow base 40 3 v L.length (grow L))
    (hx : a.eval x = .slice (some ⟨w.heap.size, 0, none⟩) 1 1) (hL : L.length ≤ 1048576) (hbase : base ≤ w.heap.size)
    (h : ∀ v' w', w'.ownsRow base 40 3 v' (L ++ [(p0, p1, p2)]).length (grow (L ++ [(p0, p1, p2)])) → w.grownBy w' v.ownBlock → (∀ g, v'.ownBlock = some g → v.ownBlock = some g ∨ w.heap.size ≤ g) → wpList Try.prog ops Q rest (a.put o.dst v') w') :
    wpList Try.prog ops Q (o :: rest) a (w.alloc (.cells #[.int .i64 p0, .bool p1, .int .i64 p2] 40)) := by
  obtain ⟨i0, hi, hz0, hz1, hz2⟩ := info_parts infoReading
  refine wpList_append_new hgd s x 34 ho base 40 i0 (.agg #[.int .i64 0, .bool false, .int .i64 0]) 3 24 Try.underlying34 hi hz0 hz1 hz2 rfl (by decide) v L.length (grow L) hs (World.ownsRow.alloc hown _) ⟨w.heap.size, 0, none⟩ 1 1 [.int .i64 p0, .bool p1, .int .i64 p2] hx rfl (reading_at w (p0, p1, p2) 40) (by intro u hu; simp at hu; rcases hu with rfl | rfl | rfl <;> rfl) (by unfold maxLen; omega) (by omega) (by simp; omega) ?_
  intro v' w' h1 h2 h3
  refine h v' w' (by rw [grow_snoc, List.length_append]; exact h1) ?_ (fun g hg => ?_)
  · exact ⟨h2.os, h2.tape, h2.output, Nat.le_trans (by simp) h2.size, fun k hk hne => (h2.block k (by simp; omega) hne).trans ((World.grownBy_alloc w _ none).block k hk (by simp))⟩
  · rcases h3 g hg with q | q
    · exact .inl q
    · exact .inr (by simp at q; omega)
theorem made_reading (w : World) : (w.alloc (.cells #[] 40)).ownsRow w.heap.size 40 3 (.slice (some ⟨w.heap.size, 0, none⟩) 0 0) ([] : List RgT).length (grow []) := World.ownsRow_made w #[] 0 (Nat.le_refl _) (by simp [maxLen]) (by simp)
theorem nil_reading (w : World) (B : Nat) : w.ownsRow B 40 3 (.slice none 0 0) ([] : List RgT).length (grow []) := World.ownsRow_nil w B 40 3
theorem own_baseG {w : World} {base base' s n : Nat} {T : TypeId} {v : Value} {xs : List Value} (h : w.ownsRow base' T s v n xs) (hb : base ≤ base') : w.ownsRow base T s v n xs := by
  refine ⟨h.1, ?_⟩
  rcases h.2 with q | ⟨g, cap, cur, h1, h2, h3⟩
  · exact .inl q
  · exact .inr ⟨g, cap, cur, h1, Nat.le_trans hb h2, h3⟩
end Go.Proofs.Ytdllkfllnljaaaa
