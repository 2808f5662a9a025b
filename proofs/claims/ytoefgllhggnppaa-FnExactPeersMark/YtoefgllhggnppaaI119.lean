/- What PeersMark tells; the rows that its loops read. -/
import Derived.Test.YtoefgllhggnppaaI118
import Derived.WalkKit
import Derived.WalkSpells
import Derived.WalkLawsBesides
import Derived.Deep.RegionHeld
namespace Go.Proofs.Ytoefgllhggnppaa
open Go.RowKit
set_option linter.unusedVariables false
def zC : CT := (0, 0, 0)
def gC (C : List CT) (k : Nat) : CT := C.getD k zC
def apB (c : CT) (lo hi : Int) : Bool := decide (0 < apartI c.2.1 c.2.2 lo hi)
def stp (lo hi : Int) (p : PT) (c : CT) : PT := if c.1 = p.1 then (p.1, p.2.1, p.2.2.1, p.2.2.2.1, apB c lo hi) else p
def mkN (C : List CT) (lo hi : Int) (k : Nat) (p : PT) : PT := (C.take k).foldl (stp lo hi) p
def mkO (C : List CT) (lo hi : Int) (p : PT) : PT := mkN C lo hi C.length p
theorem stp_id (lo hi : Int) (p : PT) (c : CT) : (stp lo hi p c).1 = p.1 := by unfold stp; split <;> rfl
theorem fold_id (lo hi : Int) : ∀ (C : List CT) (p : PT), (C.foldl (stp lo hi) p).1 = p.1
  | [], _ => rfl
  | c :: C, p => by rw [List.foldl_cons, fold_id lo hi C, stp_id]
theorem mkN_id (C : List CT) (lo hi : Int) (k : Nat) (p : PT) : (mkN C lo hi k p).1 = p.1 := fold_id lo hi _ p
theorem take_gC {C : List CT} {k : Nat} (hk : k < C.length) : C.take (k + 1) = C.take k ++ [gC C k] := by
  rw [List.take_add_one, gC, List.getD_eq_getElem?_getD, List.getElem?_eq_getElem hk]
  rfl
theorem mkN_succ {C : List CT} {lo hi : Int} {k : Nat} (hk : k < C.length) (p : PT) : mkN C lo hi (k + 1) p = stp lo hi (mkN C lo hi k p) (gC C k) := by
  rw [mkN, take_gC hk, List.foldl_append]
  rfl
theorem mkN_yes {C : List CT} {lo hi : Int} {k : Nat} (hk : k < C.length) {p : PT} (h : (gC C k).1 = p.1) : mkN C lo hi (k + 1) p = (p.1, (mkN C lo hi k p).2.1, (mkN C lo hi k p).2.2.1, (mkN C lo hi k p).2.2.2.1, apB (gC C k) lo hi) := by
  rw [mkN_succ hk, stp, if_pos (by rw [mkN_id]; exact h), mkN_id]
theorem mkN_no {C : List CT} {lo hi : Int} {k : Nat} (hk : k < C.length) {p : PT} (h : (gC C k).1 ≠ p.1) : mkN C lo hi (k + 1) p = mkN C lo hi k p := by
  rw [mkN_succ hk, stp, if_neg (by rw [mkN_id]; exact h)]
def mrP (M : Nat → PT) (m : Nat) (lo hi : Int) : Bool := oks M m && okI lo hi
def mrL (M : Nat → PT) (m : Nat) (n d x y lo hi : Int) : List PT := if mrP M m lo hi = true then (lst M m).map (mkO (caL M m n d x y) lo hi) else []
theorem mrL_t {M : Nat → PT} {m : Nat} {n d x y lo hi : Int} (h1 : oks M m = true) (h2 : okI lo hi = true) : mrL M m n d x y lo hi = (lst M m).map (mkO (caL M m n d x y) lo hi) := if_pos (by rw [mrP, h1, h2]; rfl)
theorem mrL_1 {M : Nat → PT} {m : Nat} {n d x y lo hi : Int} (h1 : oks M m = false) : mrL M m n d x y lo hi = [] := if_neg (by rw [mrP, h1]; simp)
theorem mrL_2 {M : Nat → PT} {m : Nat} {n d x y lo hi : Int} (h1 : okI lo hi = false) : mrL M m n d x y lo hi = [] := if_neg (by rw [mrP, h1]; simp)
theorem PeersMark_len (M : Nat → PT) (m : Nat) (n d x y lo hi : Int) : (mrL M m n d x y lo hi).length ≤ 9 := by
  unfold mrL
  split
  · next h =>
    unfold mrP at h
    simp only [Bool.and_eq_true] at h
    have := oks_le h.1
    rw [List.length_map, lst_len]
    omega
  · simp
theorem caK_mem {M : Nat → PT} {n d x : Int} {Fr : List Int} : ∀ {k : Nat} {c : CT}, c ∈ caK M n d x Fr k → ∃ j, j < k ∧ crA (M (gI Fr j).toNat) n d x = 0 ∧ c = crE (M (gI Fr j).toNat) n d x
  | 0, c, h => by simp [caK] at h
  | k + 1, c, h => by
    simp only [caK] at h
    split at h
    · next hc =>
      rw [List.mem_append] at h
      rcases h with h | h
      · obtain ⟨j, h1, h2⟩ := caK_mem h
        exact ⟨j, by omega, h2⟩
      · simp at h
        exact ⟨k, by omega, hc, h⟩
    · obtain ⟨j, h1, h2⟩ := caK_mem h
      exact ⟨j, by omega, h2⟩
theorem caL_at {M : Nat → PT} {m : Nat} {n d x y : Int} {k : Nat} (hk : k < (caL M m n d x y).length) : okI (gC (caL M m n d x y) k).2.1 (gC (caL M m n d x y) k).2.2 = true ∧ ∃ P, P < m ∧ (M P).1 = (gC (caL M m n d x y) k).1 := by
  have hm : gC (caL M m n d x y) k ∈ caL M m n d x y := by
    rw [gC, List.getD_eq_getElem?_getD, List.getElem?_eq_getElem hk]
    exact List.getElem_mem hk
  generalize gC (caL M m n d x y) k = c at *
  obtain ⟨j, hj, h0, rfl⟩ := caK_mem hm
  obtain ⟨P, hP, hPm⟩ := frL_place hj
  rw [hP, Int.toNat_natCast] at h0 ⊢
  exact ⟨(cr_ok h0).2.2, P, hPm, rfl⟩
theorem meet_apB {c : CT} {lo hi : Int} (h1 : okI c.2.1 c.2.2 = true) (h2 : okI lo hi = true) : (!(meetB c.2.1 c.2.2 lo hi)) = apB c lo hi := by
  obtain ⟨c0, cl, ch⟩ := c
  have hb : okII cl ch lo hi = true := by simp [okII, h2]; exact h1
  have ⟨a1, a2, a3⟩ := okI_t (show okI cl ch = true from h1)
  have ⟨b1, b2, b3⟩ := okI_t h2
  show (!(meetB cl ch lo hi)) = decide (0 < apartI cl ch lo hi)
  simp only [meetB, hb, Bool.true_and]
  rw [apartI_t hb]
  have q1 : -1000000000000 ≤ imx cl lo ∧ imn ch hi ≤ 1000000000000 := by unfold imx imn; split <;> split <;> omega
  unfold okI
  by_cases h : imx cl lo ≤ imn ch hi
  · have e : ¬ 0 < imx 0 (imx cl lo - imn ch hi) := by
      generalize imx cl lo = u at *
      generalize imn ch hi = v at *
      unfold imx; split <;> omega
    simp [h, q1, e]
  · have e : 0 < imx 0 (imx cl lo - imn ch hi) := by
      generalize imx cl lo = u at *
      generalize imn ch hi = v at *
      unfold imx; split <;> omega
    simp [h, e]
theorem FLP.map {F : Int → Option PT} {L : List PT} (h : FLP F L) (g : PT → PT) (hg : ∀ p, (g p).1 = p.1) : FLP (fun y => (F y).map g) (L.map g) := by
  refine ⟨?_, fun x q => ?_⟩
  · rw [List.pairwise_map]
    exact List.Pairwise.imp (fun {a b} hab => by rw [hg, hg]; exact hab) h.1
  · show (F x).map g = some q ↔ _
    rw [List.mem_map]
    constructor
    · intro hx
      rw [Option.map_eq_some_iff] at hx
      obtain ⟨p, hp, rfl⟩ := hx
      have := (h.2 x p).1 hp
      exact ⟨⟨p, this.1, rfl⟩, by rw [hg]; exact this.2⟩
    · rintro ⟨⟨p, hp, rfl⟩, he⟩
      rw [hg] at he
      rw [(h.2 x p).2 ⟨hp, he⟩]
      rfl
theorem mkF_step {F : Int → Option PT} {L : List PT} (hF : FLP F L) {C : List CT} {lo hi : Int} {k : Nat} (hk : k < C.length) {p : PT} (hp : F (gC C k).1 = some p) (y : Int) :
    (F y).map (mkN C lo hi (k + 1)) = if y = (gC C k).1 then some ((gC C k).1, (mkN C lo hi k p).2.1, (mkN C lo hi k p).2.2.1, (mkN C lo hi k p).2.2.2.1, apB (gC C k) lo hi) else (F y).map (mkN C lo hi k) := by
  have hp1 : p.1 = (gC C k).1 := ((hF.2 _ p).1 hp).2
  by_cases e : y = (gC C k).1
  · rw [if_pos e, e, hp]
    show some (mkN C lo hi (k + 1) p) = _
    rw [mkN_yes hk hp1.symm, hp1]
  · rw [if_neg e]
    cases hy : F y with
    | none => rfl
    | some q =>
      show some (mkN C lo hi (k + 1) q) = some (mkN C lo hi k q)
      rw [mkN_no hk]
      intro e2
      have := ((hF.2 y q).1 hy).2
      exact e (this.symm.trans e2.symm)
theorem gV_map (C : List CT) (k : Nat) : gV (C.map cV) k = cV (gC C k) := by
  rw [gV, gC, List.getD_eq_getElem?_getD, List.getD_eq_getElem?_getD, List.getElem?_map]
  cases C[k]? <;> rfl
theorem gI_map (C : List CT) (k : Nat) : gI (C.map cI) k = cI (gC C k) := by
  rw [gI, gC, List.getD_eq_getElem?_getD, List.getD_eq_getElem?_getD, List.getElem?_map]
  cases C[k]? <;> rfl
/- The rows of bounds and of Ids that are read. -/
def Two (w : World) (base : Nat) (C : List CT) (v0 v1 : Value) : Prop := w.ownsRow base 33 2 v0 (C.map cV).length (vrow (C.map cV)) ∧ w.ownsRow base 3 1 v1 (C.map cI).length (irow (C.map cI))
theorem Two.below {w w' : World} {base : Nat} {C : List CT} {v0 v1 : Value} (h : Two w base C v0 v1) (hb : Below w.heap.size w w') : Two w' base C v0 v1 := ⟨own_belK' h.1 hb, own_belK' h.2 hb⟩
theorem Two.drew {w : World} {base : Nat} {C : List CT} {v0 v1 : Value} (h : Two w base C v0 v1) : Two w.drew base C v0 v1 := h
theorem Two.lts {w : World} {base : Nat} {C : List CT} {v0 v1 : Value} (h : Two w base C v0 v1) : (∀ g, v0.ownBlock = some g → base ≤ g ∧ g < w.heap.size) ∧ (∀ g, v1.ownBlock = some g → base ≤ g ∧ g < w.heap.size) := ⟨fun g hg => World.ownsRow.lt h.1 g hg, fun g hg => World.ownsRow.lt h.2 g hg⟩
theorem Two.kept {w w' : World} {base : Nat} {o : Option Nat} {C : List CT} {v0 v1 : Value} (h : Two w base C v0 v1) (hg : w.grownBy w' o) (h0 : v0.ownBlock = none ∨ v0.ownBlock ≠ o) (h1 : v1.ownBlock = none ∨ v1.ownBlock ≠ o) : Two w' base C v0 v1 := ⟨World.ownsRow.kept h.1 hg h0, World.ownsRow.kept h.2 hg h1⟩
theorem Two.but {w w' : World} {base j : Nat} {C : List CT} {v0 v1 : Value} (h : Two w base C v0 v1) (hb : But j w w') (h0 : ∀ g, v0.ownBlock = some g → g ≠ j) (h1 : ∀ g, v1.ownBlock = some g → g ≠ j) : Two w' base C v0 v1 := h.kept hb.grK (ne_blk h0) (ne_blk h1)
theorem Two.at {w : World} {base : Nat} {C : List CT} {v0 v1 : Value} (h : Two w base C v0 v1) {k : Nat} (hk : k < C.length) : ∃ a c a' c', v0 = .slice (some ⟨a, 0, none⟩) C.length c ∧ v1 = .slice (some ⟨a', 0, none⟩) C.length c' ∧ a < w.heap.size ∧ a' < w.heap.size ∧ w.cell? ⟨a, k * 2, none⟩ = some (.int .i64 (gC C k).2.1) ∧ w.cell? ⟨a, k * 2 + 1, none⟩ = some (.int .i64 (gC C k).2.2) ∧ w.cell? ⟨a', k, none⟩ = some (.int .i64 (gC C k).1) := by
  obtain ⟨h1, h2⟩ := h
  rcases h1.2 with ⟨_, h0⟩ | ⟨g, cap, cur, rfl, _⟩
  · rw [List.length_map] at h0; omega
  rcases h2.2 with ⟨_, h0⟩ | ⟨g', cap', cur', rfl, _⟩
  · rw [List.length_map] at h0; omega
  have e1 := World.ownsRow.cellAt h1 (k * 2) (by rw [List.length_map]; omega)
  have e2 := World.ownsRow.cellAt h1 (k * 2 + 1) (by rw [List.length_map]; omega)
  have e3 := World.ownsRow.cellAt h2 k (by rw [List.length_map]; omega)
  refine ⟨g, cap, g', cap', by rw [List.length_map], by rw [List.length_map], (World.ownsRow.lt h1 g rfl).2, (World.ownsRow.lt h2 g' rfl).2, ?_, ?_, ?_⟩
  · rw [e1]
    have : (vrow (C.map cV))[k * 2]? = some (MFIval (gV (C.map cV)) (k * 2 + 0)) := by rw [vrow, List.getElem?_map, List.getElem?_range (by rw [List.length_map]; omega)]; rfl
    rw [this, MFIval_at _ _ 0 (by decide), gV_map]
    rfl
  · rw [e2]
    have : (vrow (C.map cV))[k * 2 + 1]? = some (MFIval (gV (C.map cV)) (k * 2 + 1)) := by rw [vrow, List.getElem?_map, List.getElem?_range (by rw [List.length_map]; omega)]; rfl
    rw [this, MFIval_at _ _ 1 (by decide), gV_map]
    rfl
  · rw [e3]
    have : (irow (C.map cI))[k]? = some (MFInt (gI (C.map cI)) k) := by rw [irow, List.getElem?_map, List.getElem?_range (by rw [List.length_map]; omega)]; rfl
    rw [this, MFInt, gI_map]
    rfl
end Go.Proofs.Ytoefgllhggnppaa
