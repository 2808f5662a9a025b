/- Rows of looks told by lists; an append of one. -/
import Derived.Test.YtdllkfllnljaaaaA123
import Derived.Test.YtdllkfllnljaaaaI106
import Derived.WalkKit
import Derived.WalkSpells
import Derived.WalkLawsBesides
import Derived.Deep.RegionHeld
namespace Go.Proofs.Ytdllkfllnljaaaa
open Go.RowKit
set_option linter.unusedVariables false
/- Rows of looks told by a list; an append of one look. -/
def gK (L : List LkT) (i : Nat) : LkT := L.getD i zLk
def lrow (L : List LkT) : List Value := (List.range (L.length * 3)).map (MFLook (gK L))
theorem gK_old {L : List LkT} {p : LkT} {i : Nat} (h : i < L.length) : gK (L ++ [p]) i = gK L i := by rw [gK, gK, List.getD_eq_getElem?_getD, List.getD_eq_getElem?_getD, List.getElem?_append_left h]
theorem gK_new (L : List LkT) (p : LkT) : gK (L ++ [p]) L.length = p := by rw [gK, List.getD_eq_getElem?_getD, List.getElem?_append_right (Nat.le_refl _), Nat.sub_self]; rfl
theorem lrow_snoc (L : List LkT) (p : LkT) : lrow (L ++ [p]) = lrow L ++ [.bool p.1, .int .i64 p.2.1, .int .i64 p.2.2] := by
  rw [lrow, List.length_append, show [p].length = 1 from rfl, mapF_add, lrow]
  congr 1
  · refine List.map_congr_left fun c hc => ?_
    have hc' : c < L.length * 3 := List.mem_range.1 hc
    show MCLook (gK (L ++ [p]) (c / 3)) _ = MCLook (gK L (c / 3)) _
    rw [gK_old (by omega)]
  · show [MFLook (gK (L ++ [p])) (L.length * 3 + 0), MFLook (gK (L ++ [p])) (L.length * 3 + 1), MFLook (gK (L ++ [p])) (L.length * 3 + 2)] = _
    rw [MFLook_at _ _ 0 (by decide), MFLook_at _ _ 1 (by decide), MFLook_at _ _ 2 (by decide), gK_new]
    rfl
theorem look_at (w : World) (p : LkT) (T : TypeId) : ∀ j u, [.bool p.1, .int .i64 p.2.1, .int .i64 p.2.2][j]? = some u → (w.alloc (.cells #[.bool p.1, .int .i64 p.2.1, .int .i64 p.2.2] T)).cell? ((⟨w.heap.size, 0, none⟩ : Addr).add j) = some u := by
  intro j u h
  match j, h with
  | 0, h => simp at h; subst h; simp [Addr.add]
  | 1, h => simp at h; subst h; simp [Addr.add]
  | 2, h => simp at h; subst h; simp [Addr.add]
theorem add_look {w : World} {ops : Array Oper} {rest : List Oper} {o : Oper} {a : Act} {Q : Exit → Act → World → Prop} {p0 : Bool} {p1 : Int} {p2 : Int} (hgd : o.guard = none) (s x : Operand)
    (ho : o.op = .call { callee := .builtin .append, args := #[s, x], argTypes := #[26, 26] }) (base : Nat) (L : List LkT) (v : Value) (hs : a.eval s = v) (hown : w.ownsRow base 32 3 v L.length (lrow L))
    (hx : a.eval x = .slice (some ⟨w.heap.size, 0, none⟩) 1 1) (hL : L.length ≤ 1048576) (hbase : base ≤ w.heap.size)
    (h : ∀ v' w', w'.ownsRow base 32 3 v' (L ++ [(p0, p1, p2)]).length (lrow (L ++ [(p0, p1, p2)])) → w.grownBy w' v.ownBlock → (∀ g, v'.ownBlock = some g → v.ownBlock = some g ∨ w.heap.size ≤ g) → wpList Try.prog ops Q rest (a.put o.dst v') w') :
    wpList Try.prog ops Q (o :: rest) a (w.alloc (.cells #[.bool p0, .int .i64 p1, .int .i64 p2] 32)) := by
  obtain ⟨i0, hi, hz0, hz1, hz2⟩ := info_parts infoLook
  refine wpList_append_new hgd s x 26 ho base 32 i0 (.agg #[.bool false, .int .i64 0, .int .i64 0]) 3 24 Try.underlying26 hi hz0 hz1 hz2 rfl (by decide) v L.length (lrow L) hs (World.ownsRow.alloc hown _) ⟨w.heap.size, 0, none⟩ 1 1 [.bool p0, .int .i64 p1, .int .i64 p2] hx rfl (look_at w (p0, p1, p2) 32) (by intro u hu; simp at hu; rcases hu with rfl | rfl | rfl <;> rfl) (by unfold maxLen; omega) (by omega) (by simp; omega) ?_
  intro v' w' h1 h2 h3
  refine h v' w' (by rw [lrow_snoc, List.length_append]; exact h1) ?_ (fun g hg => ?_)
  · exact ⟨h2.os, h2.tape, h2.output, Nat.le_trans (by simp) h2.size, fun k hk hne => (h2.block k (by simp; omega) hne).trans ((World.grownBy_alloc w _ none).block k hk (by simp))⟩
  · rcases h3 g hg with q | q
    · exact .inl q
    · exact .inr (by simp at q; omega)
theorem made_look (w : World) : (w.alloc (.cells #[] 32)).ownsRow w.heap.size 32 3 (.slice (some ⟨w.heap.size, 0, none⟩) 0 0) ([] : List LkT).length (lrow []) := World.ownsRow_made w #[] 0 (Nat.le_refl _) (by simp [maxLen]) (by simp)
theorem nil_look (w : World) (B : Nat) : w.ownsRow B 32 3 (.slice none 0 0) ([] : List LkT).length (lrow []) := World.ownsRow_nil w B 32 3
end Go.Proofs.Ytdllkfllnljaaaa
