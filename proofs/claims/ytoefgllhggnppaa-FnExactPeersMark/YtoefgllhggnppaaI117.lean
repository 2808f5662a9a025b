/- What PeersCarried tells; the state of its loops. -/
import Derived.Test.YtoefgllhggnppaaI116
import Derived.Test.YtoefgllhggnppaaQ3
import Derived.WalkKit
import Derived.WalkSpells
import Derived.WalkLawsBesides
import Derived.Deep.RegionHeld
namespace Go.Proofs.Ytoefgllhggnppaa
open Go.RowKit
set_option linter.unusedVariables false
abbrev CT : Type := Int × Int × Int
def cV (e : CT) : VT := (e.2.1, e.2.2)
def cI (e : CT) : Int := e.1
def crA (p : PT) (n d x : Int) : Int := crC true p.2.1 p.2.2.1 p.2.2.2.1 n d x
def crE (p : PT) (n d x : Int) : CT := (p.1, crL true p.2.1 p.2.2.1 p.2.2.2.1 n d x, crH true p.2.1 p.2.2.1 p.2.2.2.1 n d x)
def caK (M : Nat → PT) (n d x : Int) (Fr : List Int) : Nat → List CT
  | 0 => []
  | k + 1 => if crA (M (gI Fr k).toNat) n d x = 0 then caK M n d x Fr k ++ [crE (M (gI Fr k).toNat) n d x] else caK M n d x Fr k
theorem caK_yes {M : Nat → PT} {n d x : Int} {Fr : List Int} {k : Nat} (h : crA (M (gI Fr k).toNat) n d x = 0) : caK M n d x Fr (k + 1) = caK M n d x Fr k ++ [crE (M (gI Fr k).toNat) n d x] := by simp [caK, h]
theorem caK_no {M : Nat → PT} {n d x : Int} {Fr : List Int} {k : Nat} (h : crA (M (gI Fr k).toNat) n d x ≠ 0) : caK M n d x Fr (k + 1) = caK M n d x Fr k := by simp [caK, h]
theorem caK_len (M : Nat → PT) (n d x : Int) (Fr : List Int) : ∀ k, (caK M n d x Fr k).length ≤ k
  | 0 => Nat.le_refl _
  | k + 1 => by have := caK_len M n d x Fr k; simp only [caK]; split <;> simp <;> omega
def caL (M : Nat → PT) (m : Nat) (n d x y : Int) : List CT := caK M n d x (frL M m x y) (frL M m x y).length
theorem caL_len (M : Nat → PT) (m : Nat) (n d x y : Int) : (caL M m n d x y).length ≤ 9 := by
  have h1 := PeersFresh_len M m x y
  have h2 := caK_len M n d x (frL M m x y) (frL M m x y).length
  unfold caL
  omega
theorem PeersCarried_len0 (M : Nat → PT) (m : Nat) (n d x y : Int) : ((caL M m n d x y).map cV).length ≤ 9 := by rw [List.length_map]; exact caL_len M m n d x y
theorem PeersCarried_len1 (M : Nat → PT) (m : Nat) (n d x y : Int) : ((caL M m n d x y).map cI).length ≤ 9 := by rw [List.length_map]; exact caL_len M m n d x y
theorem frs_mem {M : Nat → PT} {x y : Int} : ∀ {m : Nat} {z : Int}, z ∈ frs M x y m → ∃ P : Nat, z = (P : Int) ∧ P < m
  | 0, z, h => by simp [frs] at h
  | m + 1, z, h => by
    simp only [frs] at h
    split at h
    · rw [List.mem_append] at h
      rcases h with h | h
      · obtain ⟨P, h1, h2⟩ := frs_mem h
        exact ⟨P, h1, by omega⟩
      · simp at h
        exact ⟨m, h, by omega⟩
    · obtain ⟨P, h1, h2⟩ := frs_mem h
      exact ⟨P, h1, by omega⟩
theorem frL_place {M : Nat → PT} {m : Nat} {x y : Int} {k : Nat} (hk : k < (frL M m x y).length) : ∃ P : Nat, gI (frL M m x y) k = (P : Int) ∧ P < m := by
  have hm : gI (frL M m x y) k ∈ frL M m x y := by
    rw [gI, List.getD_eq_getElem?_getD, List.getElem?_eq_getElem hk]
    exact List.getElem_mem hk
  generalize gI (frL M m x y) k = z at *
  unfold frL at hm
  split at hm
  · exact frs_mem hm
  · simp at hm
/- The state of the loop: the drift in its box, and three rows apart: the places, the bounds, the Ids. -/
def ApR (u v : Value) : Prop := ∀ g, u.ownBlock = some g → v.ownBlock ≠ some g
def CaSt (w : World) (n d : Int) (vf : Value) (Fr : List Int) (KV : List VT) (KI : List Int) (vo vi : Value) (wr : World) : Prop :=
  Bx2 wr w.heap.size (.int .i64 n) (.int .i64 d) ∧ wr.ownsRow (w.heap.size + 1) 3 1 vf Fr.length (irow Fr) ∧ wr.ownsRow (w.heap.size + 1) 33 2 vo KV.length (vrow KV) ∧ wr.ownsRow (w.heap.size + 1) 3 1 vi KI.length (irow KI) ∧ ApR vf vo ∧ ApR vf vi ∧ ApR vo vi ∧ Below w.heap.size w wr
theorem CaSt.below {w : World} {n d : Int} {vf : Value} {Fr : List Int} {KV : List VT} {KI : List Int} {vo vi : Value} {wr wr' : World} (h : CaSt w n d vf Fr KV KI vo vi wr) (hb : Below wr.heap.size wr wr') : CaSt w n d vf Fr KV KI vo vi wr' := by
  obtain ⟨h1, h2, h3, h4, h5, h6, h7, h8⟩ := h
  exact ⟨h1.below hb, own_belK' h2 hb, own_belK' h3 hb, own_belK' h4 hb, h5, h6, h7, h8.trans (hb.mono h8.size)⟩
theorem CaSt.drew {w : World} {n d : Int} {vf : Value} {Fr : List Int} {KV : List VT} {KI : List Int} {vo vi : Value} {wr : World} (h : CaSt w n d vf Fr KV KI vo vi wr) : CaSt w n d vf Fr KV KI vo vi wr.drew := by
  obtain ⟨h1, h2, h3, h4, h5, h6, h7, h8⟩ := h
  exact ⟨h1, h2, h3, h4, h5, h6, h7, Below.drew h8⟩
theorem kept_ne {w w' : World} {base s m j : Nat} {T : TypeId} {v : Value} {xs : List Value} (h : w.ownsRow base T s v m xs) (hb : But j w w') (hj : ∀ g, v.ownBlock = some g → g < j) : w'.ownsRow base T s v m xs :=
  World.ownsRow.kept h hb.grK (ne_blk fun g hg e => by have := hj g hg; omega)
theorem CaSt.lts {w : World} {n d : Int} {vf : Value} {Fr : List Int} {KV : List VT} {KI : List Int} {vo vi : Value} {wr : World} (h : CaSt w n d vf Fr KV KI vo vi wr) : w.heap.size < wr.heap.size ∧ (∀ g, vf.ownBlock = some g → g < wr.heap.size) ∧ (∀ g, vo.ownBlock = some g → g < wr.heap.size) ∧ (∀ g, vi.ownBlock = some g → g < wr.heap.size) :=
  ⟨h.1.1, fun g hg => (World.ownsRow.lt h.2.1 g hg).2, fun g hg => (World.ownsRow.lt h.2.2.1 g hg).2, fun g hg => (World.ownsRow.lt h.2.2.2.1 g hg).2⟩
theorem CaSt.but {w : World} {n d : Int} {vf : Value} {Fr : List Int} {KV : List VT} {KI : List Int} {vo vi : Value} {wr wr' : World} {j : Nat} (h : CaSt w n d vf Fr KV KI vo vi wr) (hb : But j wr wr') (hj : w.heap.size < j ∧ (∀ g, vf.ownBlock = some g → g < j) ∧ (∀ g, vo.ownBlock = some g → g < j) ∧ (∀ g, vi.ownBlock = some g → g < j)) : CaSt w n d vf Fr KV KI vo vi wr' := by
  obtain ⟨h1, h2, h3, h4, h5, h6, h7, h8⟩ := h
  exact ⟨h1.but hb (by omega), kept_ne h2 hb hj.2.1, kept_ne h3 hb hj.2.2.1, kept_ne h4 hb hj.2.2.2, h5, h6, h7, h8.trans (hb.below (by omega) h8.size)⟩
theorem ApR.ne {u v : Value} (h : ApR u v) : v.ownBlock = none ∨ v.ownBlock ≠ u.ownBlock := ne_own h
theorem ApR.ne' {u v : Value} (h : ApR u v) : u.ownBlock = none ∨ u.ownBlock ≠ v.ownBlock := ne_own (fun g a b => h g b a)
theorem ApR.grow {u v v' : Value} {b : Nat} (h : ApR u v) (hn : ∀ g, v'.ownBlock = some g → v.ownBlock = some g ∨ b ≤ g) (hu : ∀ g, u.ownBlock = some g → g < b) : ApR u v' := fun g hg hg' => by
  rcases hn g hg' with q | q
  · exact h g hg q
  · have := hu g hg; omega
theorem ApR.grow' {u u' v : Value} {b : Nat} (h : ApR u v) (hn : ∀ g, u'.ownBlock = some g → u.ownBlock = some g ∨ b ≤ g) (hv : ∀ g, v.ownBlock = some g → g < b) : ApR u' v := fun g hg hg' => by
  rcases hn g hg with q | q
  · exact h g q hg'
  · have := hv g hg'; omega
theorem CaSt.addV {w : World} {n d : Int} {vf : Value} {Fr : List Int} {KV KV' : List VT} {KI : List Int} {vo vi v' : Value} {wr w9 : World} (h : CaSt w n d vf Fr KV KI vo vi wr) (O9 : w9.ownsRow (w.heap.size + 1) 33 2 v' KV'.length (vrow KV')) (hg : wr.grownBy w9 vo.ownBlock) (hn : ∀ g, v'.ownBlock = some g → vo.ownBlock = some g ∨ wr.heap.size ≤ g) : CaSt w n d vf Fr KV' KI v' vi w9 := by
  have hl := h.lts
  obtain ⟨h1, h2, h3, h4, h5, h6, h7, h8⟩ := h
  have hb1 : some w.heap.size ≠ vo.ownBlock := fun e => by have := (World.ownsRow.lt h3 _ e.symm).1; omega
  exact ⟨h1.kept hg hb1, World.ownsRow.kept h2 hg h5.ne', O9, World.ownsRow.kept h4 hg h7.ne, h5.grow hn hl.2.1, h6, h7.grow' hn hl.2.2.2, h8.trans ((grown_belowK h3 hg (by omega)).mono (by omega))⟩
theorem CaSt.addI {w : World} {n d : Int} {vf : Value} {Fr : List Int} {KV : List VT} {KI KI' : List Int} {vo vi v' : Value} {wr w9 : World} (h : CaSt w n d vf Fr KV KI vo vi wr) (O9 : w9.ownsRow (w.heap.size + 1) 3 1 v' KI'.length (irow KI')) (hg : wr.grownBy w9 vi.ownBlock) (hn : ∀ g, v'.ownBlock = some g → vi.ownBlock = some g ∨ wr.heap.size ≤ g) : CaSt w n d vf Fr KV KI' vo v' w9 := by
  have hl := h.lts
  obtain ⟨h1, h2, h3, h4, h5, h6, h7, h8⟩ := h
  have hb1 : some w.heap.size ≠ vi.ownBlock := fun e => by have := (World.ownsRow.lt h4 _ e.symm).1; omega
  exact ⟨h1.kept hg hb1, World.ownsRow.kept h2 hg h6.ne', World.ownsRow.kept h3 hg h7.ne', O9, h5, h6.grow hn hl.2.1, h7.grow hn hl.2.2.1, h8.trans ((grown_belowK h4 hg (by omega)).mono (by omega))⟩
theorem CaSt.place {w : World} {n d : Int} {Fr : List Int} {KV : List VT} {KI : List Int} {vf vo vi : Value} {wr : World} (h : CaSt w n d vf Fr KV KI vo vi wr) {k : Nat} (hk : k < Fr.length) : ∃ b c, vf = .slice (some ⟨b, 0, none⟩) Fr.length c ∧ b < wr.heap.size ∧ wr.cell? ⟨b, k, none⟩ = some (.int .i64 (gI Fr k)) := by
  rcases h.2.1.2 with ⟨_, h0⟩ | ⟨g, cap, cur, rfl, h1, h2, h3, h4, h5, h6⟩
  · omega
  · have hc := World.ownsRow.cellAt h.2.1 k (by omega)
    refine ⟨g, cap, rfl, (World.ownsRow.lt h.2.1 g rfl).2, ?_⟩
    rw [hc]
    simp [irow, MFInt, hk]
end Go.Proofs.Ytoefgllhggnppaa
