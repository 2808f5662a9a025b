/- What PeersCarried tells; the state of its loops. Contracts of PeersCarried. What PeersMark tells; the rows that its loops read. The contract of PeersMark in the program. The contract of PeersMark in the specification. Marks of an oscillator: what two by two and neighbours come to; which mark is the last up to a time. Contracts of OscStep, and the walk of its exact law. Contracts for lists of intervals: l1All, szIvalS, eqIvalS. Contracts for lists of intervals: what toIvalS makes. What intervals two by two come to, and spec.MeetAll where it refuses. What a list of intervals comes to; what it is read from. Lists of marks and of strides: what is made of them, and whether two are the same. -/
import Derived.Test.YtkeijldfblgeaaaMt3
import Derived.Test.YtkeijldfblgeaaaMt5
import Derived.WalkKit
import Derived.WalkSpells
import Derived.WalkLawsBesides
import Derived.Deep.RegionHeld
import Derived.Deep.RegionHeld3
import Derived.Deep.DeepCutAuto
import Derived.Test.YtkeijldfblgeaaaMt4
import Derived.Test.YtkeijldfblgeaaaMt1
import Derived.Deep.OwnRows
import Derived.Test.YtkeijldfblgeaaaMt2
namespace Go.Proofs.Ytkeijldfblgeaaa
open Go.RowKit
set_option linter.unusedVariables false
abbrev CT : Type := Int × Int × Int
def cV (e : CT) : VT := (e.2.1, e.2.2)
def cI (e : CT) : Int := e.1
def crA (p : PT) (n d x : Int) : Int := crC true p.2.1 p.2.2.1 p.2.2.2.1 n d x
def crE (p : PT) (n d x : Int) : CT := (p.1, crL true p.2.1 p.2.2.1 p.2.2.2.1 n d x, crH true p.2.1 p.2.2.1 p.2.2.2.1 n d x)
def caK (M : Nat → PT) (n d x : Int) (Fr : List Int) : Nat → List CT
  | 0 => []
  | k + 1 => if crA (M (gI Fr k).toNat) n d x = 0 then caK M n d x Fr k ++ [crE (M (gI Fr k).toNat) n d x] else caK M n d x Fr k
theorem caK_yes {M : Nat → PT} {n d x : Int} {Fr : List Int} {k : Nat} (h : crA (M (gI Fr k).toNat) n d x = 0) : caK M n d x Fr (k + 1) = caK M n d x Fr k ++ [crE (M (gI Fr k).toNat) n d x] := by simp [caK, h]
theorem caK_no {M : Nat → PT} {n d x : Int} {Fr : List Int} {k : Nat} (h : crA (M (gI Fr k).toNat) n d x ≠ 0) : caK M n d x Fr (k + 1) = caK M n d x Fr k := by simp [caK, h]
theorem caK_len (M : Nat → PT) (n d x : Int) (Fr : List Int) : ∀ k, (caK M n d x Fr k).length ≤ k
  | 0 => Nat.le_refl _
  | k + 1 => by have := caK_len M n d x Fr k; simp only [caK]; split <;> simp <;> omega
def caL (M : Nat → PT) (m : Nat) (n d x y : Int) : List CT := caK M n d x (frL M m x y) (frL M m x y).length
theorem caL_len (M : Nat → PT) (m : Nat) (n d x y : Int) : (caL M m n d x y).length ≤ 9 := by
  have h1 := PeersFresh_len M m x y
  have h2 := caK_len M n d x (frL M m x y) (frL M m x y).length
  unfold caL
  omega
theorem PeersCarried_len0 (M : Nat → PT) (m : Nat) (n d x y : Int) : ((caL M m n d x y).map cV).length ≤ 9 := by rw [List.length_map]; exact caL_len M m n d x y
theorem PeersCarried_len1 (M : Nat → PT) (m : Nat) (n d x y : Int) : ((caL M m n d x y).map cI).length ≤ 9 := by rw [List.length_map]; exact caL_len M m n d x y
theorem frs_mem {M : Nat → PT} {x y : Int} : ∀ {m : Nat} {z : Int}, z ∈ frs M x y m → ∃ P : Nat, z = (P : Int) ∧ P < m
  | 0, z, h => by simp [frs] at h
  | m + 1, z, h => by
    simp only [frs] at h
    split at h
    · rw [List.mem_append] at h
      rcases h with h | h
      · obtain ⟨P, h1, h2⟩ := frs_mem h
        exact ⟨P, h1, by omega⟩
      · simp at h
        exact ⟨m, h, by omega⟩
    · obtain ⟨P, h1, h2⟩ := frs_mem h
      exact ⟨P, h1, by omega⟩
theorem frL_place {M : Nat → PT} {m : Nat} {x y : Int} {k : Nat} (hk : k < (frL M m x y).length) : ∃ P : Nat, gI (frL M m x y) k = (P : Int) ∧ P < m := by
  have hm : gI (frL M m x y) k ∈ frL M m x y := by
    rw [gI, List.getD_eq_getElem?_getD, List.getElem?_eq_getElem hk]
    exact List.getElem_mem hk
  generalize gI (frL M m x y) k = z at *
  unfold frL at hm
  split at hm
  · exact frs_mem hm
  · simp at hm
/- The state of the loop: the drift in its box, and three rows apart: the places, the bounds, the Ids. -/
def ApR (u v : Value) : Prop := ∀ g, u.ownBlock = some g → v.ownBlock ≠ some g
def CaSt (w : World) (n d : Int) (vf : Value) (Fr : List Int) (KV : List VT) (KI : List Int) (vo vi : Value) (wr : World) : Prop :=
  Bx2 wr w.heap.size (.int .i64 n) (.int .i64 d) ∧ wr.ownsRow (w.heap.size + 1) 3 1 vf Fr.length (irow Fr) ∧ wr.ownsRow (w.heap.size + 1) 38 2 vo KV.length (vrow KV) ∧ wr.ownsRow (w.heap.size + 1) 3 1 vi KI.length (irow KI) ∧ ApR vf vo ∧ ApR vf vi ∧ ApR vo vi ∧ Below w.heap.size w wr
theorem CaSt.below {w : World} {n d : Int} {vf : Value} {Fr : List Int} {KV : List VT} {KI : List Int} {vo vi : Value} {wr wr' : World} (h : CaSt w n d vf Fr KV KI vo vi wr) (hb : Below wr.heap.size wr wr') : CaSt w n d vf Fr KV KI vo vi wr' := by
  obtain ⟨h1, h2, h3, h4, h5, h6, h7, h8⟩ := h
  exact ⟨h1.below hb, own_belK' h2 hb, own_belK' h3 hb, own_belK' h4 hb, h5, h6, h7, h8.trans (hb.mono h8.size)⟩
theorem CaSt.drew {w : World} {n d : Int} {vf : Value} {Fr : List Int} {KV : List VT} {KI : List Int} {vo vi : Value} {wr : World} (h : CaSt w n d vf Fr KV KI vo vi wr) : CaSt w n d vf Fr KV KI vo vi wr.drew := by
  obtain ⟨h1, h2, h3, h4, h5, h6, h7, h8⟩ := h
  exact ⟨h1, h2, h3, h4, h5, h6, h7, Below.drew h8⟩
theorem kept_ne {w w' : World} {base s m j : Nat} {T : TypeId} {v : Value} {xs : List Value} (h : w.ownsRow base T s v m xs) (hb : But j w w') (hj : ∀ g, v.ownBlock = some g → g < j) : w'.ownsRow base T s v m xs :=
  World.ownsRow.kept h hb.grK (ne_blk fun g hg e => by have := hj g hg; omega)
theorem CaSt.lts {w : World} {n d : Int} {vf : Value} {Fr : List Int} {KV : List VT} {KI : List Int} {vo vi : Value} {wr : World} (h : CaSt w n d vf Fr KV KI vo vi wr) : w.heap.size < wr.heap.size ∧ (∀ g, vf.ownBlock = some g → g < wr.heap.size) ∧ (∀ g, vo.ownBlock = some g → g < wr.heap.size) ∧ (∀ g, vi.ownBlock = some g → g < wr.heap.size) :=
  ⟨h.1.1, fun g hg => (World.ownsRow.lt h.2.1 g hg).2, fun g hg => (World.ownsRow.lt h.2.2.1 g hg).2, fun g hg => (World.ownsRow.lt h.2.2.2.1 g hg).2⟩
theorem CaSt.but {w : World} {n d : Int} {vf : Value} {Fr : List Int} {KV : List VT} {KI : List Int} {vo vi : Value} {wr wr' : World} {j : Nat} (h : CaSt w n d vf Fr KV KI vo vi wr) (hb : But j wr wr') (hj : w.heap.size < j ∧ (∀ g, vf.ownBlock = some g → g < j) ∧ (∀ g, vo.ownBlock = some g → g < j) ∧ (∀ g, vi.ownBlock = some g → g < j)) : CaSt w n d vf Fr KV KI vo vi wr' := by
  obtain ⟨h1, h2, h3, h4, h5, h6, h7, h8⟩ := h
  exact ⟨h1.but hb (by omega), kept_ne h2 hb hj.2.1, kept_ne h3 hb hj.2.2.1, kept_ne h4 hb hj.2.2.2, h5, h6, h7, h8.trans (hb.below (by omega) h8.size)⟩
theorem ApR.ne {u v : Value} (h : ApR u v) : v.ownBlock = none ∨ v.ownBlock ≠ u.ownBlock := ne_own h
theorem ApR.ne' {u v : Value} (h : ApR u v) : u.ownBlock = none ∨ u.ownBlock ≠ v.ownBlock := ne_own (fun g a b => h g b a)
theorem ApR.grow {u v v' : Value} {b : Nat} (h : ApR u v) (hn : ∀ g, v'.ownBlock = some g → v.ownBlock = some g ∨ b ≤ g) (hu : ∀ g, u.ownBlock = some g → g < b) : ApR u v' := fun g hg hg' => by
  rcases hn g hg' with q | q
  · exact h g hg q
  · have := hu g hg; omega
theorem ApR.grow' {u u' v : Value} {b : Nat} (h : ApR u v) (hn : ∀ g, u'.ownBlock = some g → u.ownBlock = some g ∨ b ≤ g) (hv : ∀ g, v.ownBlock = some g → g < b) : ApR u' v := fun g hg hg' => by
  rcases hn g hg with q | q
  · exact h g q hg'
  · have := hv g hg'; omega
theorem CaSt.addV {w : World} {n d : Int} {vf : Value} {Fr : List Int} {KV KV' : List VT} {KI : List Int} {vo vi v' : Value} {wr w9 : World} (h : CaSt w n d vf Fr KV KI vo vi wr) (O9 : w9.ownsRow (w.heap.size + 1) 38 2 v' KV'.length (vrow KV')) (hg : wr.grownBy w9 vo.ownBlock) (hn : ∀ g, v'.ownBlock = some g → vo.ownBlock = some g ∨ wr.heap.size ≤ g) : CaSt w n d vf Fr KV' KI v' vi w9 := by
  have hl := h.lts
  obtain ⟨h1, h2, h3, h4, h5, h6, h7, h8⟩ := h
  have hb1 : some w.heap.size ≠ vo.ownBlock := fun e => by have := (World.ownsRow.lt h3 _ e.symm).1; omega
  exact ⟨h1.kept hg hb1, World.ownsRow.kept h2 hg h5.ne', O9, World.ownsRow.kept h4 hg h7.ne, h5.grow hn hl.2.1, h6, h7.grow' hn hl.2.2.2, h8.trans ((grown_belowK h3 hg (by omega)).mono (by omega))⟩
theorem CaSt.addI {w : World} {n d : Int} {vf : Value} {Fr : List Int} {KV : List VT} {KI KI' : List Int} {vo vi v' : Value} {wr w9 : World} (h : CaSt w n d vf Fr KV KI vo vi wr) (O9 : w9.ownsRow (w.heap.size + 1) 3 1 v' KI'.length (irow KI')) (hg : wr.grownBy w9 vi.ownBlock) (hn : ∀ g, v'.ownBlock = some g → vi.ownBlock = some g ∨ wr.heap.size ≤ g) : CaSt w n d vf Fr KV KI' vo v' w9 := by
  have hl := h.lts
  obtain ⟨h1, h2, h3, h4, h5, h6, h7, h8⟩ := h
  have hb1 : some w.heap.size ≠ vi.ownBlock := fun e => by have := (World.ownsRow.lt h4 _ e.symm).1; omega
  exact ⟨h1.kept hg hb1, World.ownsRow.kept h2 hg h6.ne', World.ownsRow.kept h3 hg h7.ne', O9, h5, h6.grow hn hl.2.1, h7.grow hn hl.2.2.1, h8.trans ((grown_belowK h4 hg (by omega)).mono (by omega))⟩
theorem CaSt.place {w : World} {n d : Int} {Fr : List Int} {KV : List VT} {KI : List Int} {vf vo vi : Value} {wr : World} (h : CaSt w n d vf Fr KV KI vo vi wr) {k : Nat} (hk : k < Fr.length) : ∃ b c, vf = .slice (some ⟨b, 0, none⟩) Fr.length c ∧ b < wr.heap.size ∧ wr.cell? ⟨b, k, none⟩ = some (.int .i64 (gI Fr k)) := by
  rcases h.2.1.2 with ⟨_, h0⟩ | ⟨g, cap, cur, rfl, h1, h2, h3, h4, h5, h6⟩
  · omega
  · have hc := World.ownsRow.cellAt h.2.1 k (by omega)
    refine ⟨g, cap, rfl, (World.ownsRow.lt h.2.1 g rfl).2, ?_⟩
    rw [hc]
    simp [irow, MFInt, hk]
end Go.Proofs.Ytkeijldfblgeaaa
namespace Go.Proofs.Ytkeijldfblgeaaa
open Go.RowKit
set_option linter.unusedVariables false
theorem Bx2.two {w : World} {j : Nat} {u v : Value} (h : Bx2 w j u v) (a b : Value) : Bx2 ((w.setCell ⟨j, 0, none⟩ a).setCell ⟨j, 1, none⟩ b) j a b := (h.set0 a).set1 b
set_option maxRecDepth 100000 in
set_option maxHeartbeats 8000000 in
theorem carried_any (x0 x1 x2 x3 : Int) (x4 : Bool) (n d x : Int) (w : World) :
    Calls Try.prog 35 #[.agg #[.int .i64 x0, .int .i64 x1, .int .i64 x2, .int .i64 x3, .bool x4], .agg #[.int .i64 n, .int .i64 d], .int .i64 x] w fun e w' => e = .returned (.tuple #[.agg #[.int .i64 (crL true x1 x2 x3 n d x), .int .i64 (crH true x1 x2 x3 n d x)], .bool (crC true x1 x2 x3 n d x == 0)]) ∧ Below w.heap.size w w' := by
  have CB := fun v => implCarryOn_any true x1 x2 x3 n d x v
  generalize crL true x1 x2 x3 n d x = U at *
  generalize crH true x1 x2 x3 n d x = D at *
  generalize crC true x1 x2 x3 n d x = C at *
  have P := ((Bx5.new w (.int .i64 x0) (.int .i64 x1) (.int .i64 x2) (.int .i64 x3) (.bool x4) 51).alloc (.cells #[.int .i64 n, .int .i64 d] 25)).alloc (.cells #[.int .i64 0, .int .i64 0] 38)
  have Q := (Bx2.new (w.alloc (.cells #[.int .i64 x0, .int .i64 x1, .int .i64 x2, .int .i64 x3, .bool x4] 51)) (.int .i64 n) (.int .i64 d) 25).alloc (.cells #[.int .i64 0, .int .i64 0] 38)
  have R := Bx2.new ((w.alloc (.cells #[.int .i64 x0, .int .i64 x1, .int .i64 x2, .int .i64 x3, .bool x4] 51)).alloc (.cells #[.int .i64 n, .int .i64 d] 25)) (.int .i64 0) (.int .i64 0) 38
  simp only [World.size_alloc] at Q R
  have B := ((Below.nw w (.cells #[.int .i64 x0, .int .i64 x1, .int .i64 x2, .int .i64 x3, .bool x4] 51)).alloc (by simp) (.cells #[.int .i64 n, .int .i64 d] 25)).alloc (by simp; omega) (.cells #[.int .i64 0, .int .i64 0] 38)
  go_enter Try.func35, Try.ntmps35
  go_upto_region 1 with fail
  generalize ((w.alloc (.cells #[.int .i64 x0, .int .i64 x1, .int .i64 x2, .int .i64 x3, .bool x4] 51)).alloc (.cells #[.int .i64 n, .int .i64 d] 25)).alloc (.cells #[.int .i64 0, .int .i64 0] 38) = v at *
  obtain ⟨a0, a1, a2, a3, a4, a5, a6, a7, a8, a9, b1⟩ := id P; obtain ⟨q0, q1, q2, q3, q4⟩ := id Q; obtain ⟨r0, r1, r2, r3, r4⟩ := id R; (try (obtain ⟨n0, n1, n2, n3, n4⟩ := id N))
  go_cut [8, 9] (fun s8 s9 wx => ∃ j : Nat, s8 = .pointer (some ⟨j, 0, none⟩) ∧ s9 = .int .i64 C ∧ Bx2 wx j (.int .i64 U) (.int .i64 D) ∧ w.heap.size + 2 < j ∧ Bx2 wx (w.heap.size + 2) (.int .i64 0) (.int .i64 0) ∧ Below w.heap.size w wx)
  case first =>
    refine wp_region_held_drew (S := (fun w' => w'.cell? ⟨w.heap.size, 1, none⟩ = some (.int .i64 x1) ∧ w'.cell? ⟨w.heap.size, 2, none⟩ = some (.int .i64 x2) ∧ w'.cell? ⟨w.heap.size, 3, none⟩ = some (.int .i64 x3) ∧ w'.cell? ⟨w.heap.size + 1, 0, none⟩ = some (.int .i64 n) ∧ w'.cell? ⟨w.heap.size + 1, 1, none⟩ = some (.int .i64 d))) (by kernel_rfl) ?_ (fun hHeld => ?_)
    · first | exact ⟨a2, a3, a4, q1, q2⟩ | (simp (maxDischargeDepth := 6) [go_sem, *]; done)
    clear a0 a1 a2 a3 a4 a5 a6 a7 a8 a9 b1 q0 q1 q2 q3 q4 r0 r1 r2 r3 r4; (try clear n0 n1 n2 n3 n4)
    replace P := P.drew
    replace Q := Q.drew
    replace R := R.drew
    replace B := Below.drew B
    generalize v.drew = v at *
    obtain ⟨a0, a1, a2, a3, a4, a5, a6, a7, a8, a9, b1⟩ := id P; obtain ⟨q0, q1, q2, q3, q4⟩ := id Q; obtain ⟨r0, r1, r2, r3, r4⟩ := id R; (try (obtain ⟨n0, n1, n2, n3, n4⟩ := id N))
    refine wpAnyH_take (i := 0) (v := ?_) (by rw [List.getElem?_toArray]; rfl) (by kernel_rfl) (by kernel_rfl) (by kernel_rfl) (by intro _ _ _ h; exact h) (Or.inl ⟨by rfl, ?_⟩) (by assumption) ?_
    rotate_left
    · (intro w hSw; (try dsimp only at hSw); go_simp; all_goals with_reducible rfl)
    (try simp only [Act.put, List.setIfInBounds_toArray, List.set_cons_zero, List.set_cons_succ])
    refine wpAnyH_take (i := 1) (v := ?_) (by rw [List.getElem?_toArray]; rfl) (by kernel_rfl) (by kernel_rfl) (by kernel_rfl) (by intro _ _ _ h; exact h) (Or.inl ⟨by rfl, ?_⟩) (by assumption) ?_
    rotate_left
    · (intro w hSw; (try dsimp only at hSw); go_simp; all_goals with_reducible rfl)
    (try simp only [Act.put, List.setIfInBounds_toArray, List.set_cons_zero, List.set_cons_succ])
    refine wpAnyH_take (i := 2) (v := ?_) (by rw [List.getElem?_toArray]; rfl) (by kernel_rfl) (by kernel_rfl) (by kernel_rfl) (by intro _ _ _ h; exact h) (Or.inl ⟨by rfl, ?_⟩) (by assumption) ?_
    rotate_left
    · (intro w hSw; (try dsimp only at hSw); go_simp; all_goals with_reducible rfl)
    (try simp only [Act.put, List.setIfInBounds_toArray, List.set_cons_zero, List.set_cons_succ])
    refine wpAnyH_take (i := 3) (v := ?_) (by rw [List.getElem?_toArray]; rfl) (by kernel_rfl) (by kernel_rfl) (by kernel_rfl) (by intro _ _ _ h; exact h) (Or.inl ⟨by rfl, ?_⟩) (by assumption) ?_
    rotate_left
    · (intro w hSw; (try dsimp only at hSw); go_simp; all_goals with_reducible rfl)
    (try simp only [Act.put, List.setIfInBounds_toArray, List.set_cons_zero, List.set_cons_succ])
    refine wpAnyH_take (i := 5) (v := ?_) (by rw [List.getElem?_toArray]; rfl) (by kernel_rfl) (by kernel_rfl) (by kernel_rfl) (by intro _ _ _ h; exact h) (Or.inl ⟨by rfl, ?_⟩) (by assumption) ?_
    rotate_left
    · (intro w hSw; (try dsimp only at hSw); go_simp; all_goals with_reducible rfl)
    (try simp only [Act.put, List.setIfInBounds_toArray, List.set_cons_zero, List.set_cons_succ])
    refine wpAnyH_take (i := 6) (v := ?_) (by rw [List.getElem?_toArray]; rfl) (by kernel_rfl) (by kernel_rfl) (by kernel_rfl) (by intro _ _ _ h; exact h) (Or.inl ⟨by rfl, ?_⟩) (by assumption) ?_
    rotate_left
    · (intro w hSw; (try dsimp only at hSw); go_simp; all_goals with_reducible rfl)
    (try simp only [Act.put, List.setIfInBounds_toArray, List.set_cons_zero, List.set_cons_succ])
    refine wpAnyH_ready (rs := [4, 11]) (by kernel_rfl) (by simp) ?_
    refine (AllReadyH.cons (by rw [List.getElem?_toArray]; rfl) (fun K hK => ?_) (AllReadyH.cons (by rw [List.getElem?_toArray]; rfl) (fun K hK => ?_) AllReadyH.nil))
    · go_simp
      refine (knownAt_any _ _ _ _).mono ?_; rintro e v ⟨rfl, hb⟩; clear a0 a1 a2 a3 a4 a5 a6 a7 a8 a9 b1 q0 q1 q2 q3 q4 r0 r1 r2 r3 r4; (try clear n0 n1 n2 n3 n4); (replace P := P.below hb); (replace Q := Q.below hb); (replace R := R.below hb); (try (replace N := N.below hb)); (replace B := B.trans (hb.mono B.size)); clear hb; obtain ⟨a0, a1, a2, a3, a4, a5, a6, a7, a8, a9, b1⟩ := id P; obtain ⟨q0, q1, q2, q3, q4⟩ := id Q; obtain ⟨r0, r1, r2, r3, r4⟩ := id R; (try (obtain ⟨n0, n1, n2, n3, n4⟩ := id N))
      (try go_wp2_with fail)
      refine hK.out _ _ ?_ (fun hHeld => ?_)
      · first | exact ⟨a2, a3, a4, q1, q2⟩ | (simp (maxDischargeDepth := 6) [go_sem, *]; done)
      clear hK K
      (try simp only [Act.put, List.setIfInBounds_toArray, List.set_cons_zero, List.set_cons_succ])
      refine wpAnyH_ready (rs := [7, 11]) (by kernel_rfl) (by simp) ?_
      refine (AllReadyH.cons (by rw [List.getElem?_toArray]; rfl) (fun K hK => ?_) (AllReadyH.cons (by rw [List.getElem?_toArray]; rfl) (fun K hK => ?_) AllReadyH.nil))
      · go_simp
        refine (CB _).mono ?_; rintro e v ⟨rfl, hb⟩; clear a0 a1 a2 a3 a4 a5 a6 a7 a8 a9 b1 q0 q1 q2 q3 q4 r0 r1 r2 r3 r4; (try clear n0 n1 n2 n3 n4); (replace P := P.below hb); (replace Q := Q.below hb); (replace R := R.below hb); (try (replace N := N.below hb)); (replace B := B.trans (hb.mono B.size)); clear hb; obtain ⟨a0, a1, a2, a3, a4, a5, a6, a7, a8, a9, b1⟩ := id P; obtain ⟨q0, q1, q2, q3, q4⟩ := id Q; obtain ⟨r0, r1, r2, r3, r4⟩ := id R; (try (obtain ⟨n0, n1, n2, n3, n4⟩ := id N))
        (try go_wp2_with fail)
        refine hK.out _ _ ?_ (fun hHeld => ?_)
        · first | exact ⟨a2, a3, a4, q1, q2⟩ | (simp (maxDischargeDepth := 6) [go_sem, *]; done)
        clear hK K
        (try simp only [Act.put, List.setIfInBounds_toArray, List.set_cons_zero, List.set_cons_succ])
        refine wpAnyH_take (i := 8) (v := ?_) (by rw [List.getElem?_toArray]; rfl) (by kernel_rfl) (by kernel_rfl) (by kernel_rfl) (by intro _ _ _ h; exact h) (Or.inl ⟨by rfl, ?_⟩) (by assumption) ?_
        rotate_left
        · (intro w hSw; (try dsimp only at hSw); go_simp; all_goals with_reducible rfl)
        (try simp only [Act.put, List.setIfInBounds_toArray, List.set_cons_zero, List.set_cons_succ])
        refine wpAnyH_take (i := 9) (v := ?_) (by rw [List.getElem?_toArray]; rfl) (by kernel_rfl) (by kernel_rfl) (by kernel_rfl) (by intro _ _ _ h; exact h) (Or.inl ⟨by rfl, ?_⟩) (by assumption) ?_
        rotate_left
        · (intro w hSw; (try dsimp only at hSw); go_simp; all_goals with_reducible rfl)
        (try simp only [Act.put, List.setIfInBounds_toArray, List.set_cons_zero, List.set_cons_succ])
        refine wpAnyH_take (i := 10) (v := ?_) (by rw [List.getElem?_toArray]; rfl) (by kernel_rfl) (by kernel_rfl) (by kernel_rfl) (by intro _ _ _ h; exact h) (Or.inl ⟨by rfl, ?_⟩) (by assumption) ?_
        rotate_left
        · (intro w hSw; (try dsimp only at hSw); go_simp; all_goals with_reducible rfl)
        (try simp only [Act.put, List.setIfInBounds_toArray, List.set_cons_zero, List.set_cons_succ])
        refine wpAnyH_ready (rs := [11]) (by kernel_rfl) (by simp) ?_
        refine (AllReadyH.cons (by rw [List.getElem?_toArray]; rfl) (fun K hK => ?_) AllReadyH.nil)
        go_simp
        (have N := Bx2.new v (.int .i64 0) (.int .i64 0) 38); (have hj : w.heap.size + 2 < v.heap.size := r0); clear a0 a1 a2 a3 a4 a5 a6 a7 a8 a9 b1 q0 q1 q2 q3 q4 r0 r1 r2 r3 r4; (try clear n0 n1 n2 n3 n4); (replace P := P.alloc (.cells #[.int .i64 0, .int .i64 0] 38)); (replace Q := Q.alloc (.cells #[.int .i64 0, .int .i64 0] 38)); (replace R := R.alloc (.cells #[.int .i64 0, .int .i64 0] 38)); (replace B := B.alloc B.size (.cells #[.int .i64 0, .int .i64 0] 38)); (generalize v.alloc (.cells #[.int .i64 0, .int .i64 0] 38) = v2 at *); obtain ⟨a0, a1, a2, a3, a4, a5, a6, a7, a8, a9, b1⟩ := id P; obtain ⟨q0, q1, q2, q3, q4⟩ := id Q; obtain ⟨r0, r1, r2, r3, r4⟩ := id R; (try (obtain ⟨n0, n1, n2, n3, n4⟩ := id N))
        refine hK.out _ _ ?_ (fun hHeld => ?_)
        · first | exact ⟨a2, a3, a4, q1, q2⟩ | (simp (maxDischargeDepth := 6) [go_sem, *]; done)
        clear hK K
        (try simp only [Act.put, List.setIfInBounds_toArray, List.set_cons_zero, List.set_cons_succ])
        refine wpAnyH_ready (rs := [12]) (by kernel_rfl) (by simp) ?_
        refine (AllReadyH.cons (by rw [List.getElem?_toArray]; rfl) (fun K hK => ?_) AllReadyH.nil)
        go_simp
        refine hK.out _ _ ?_ (fun hHeld => ?_)
        · first | exact ⟨a2, a3, a4, q1, q2⟩ | (simp (maxDischargeDepth := 6) [go_sem, *]; done)
        clear hK K
        (try simp only [Act.put, List.setIfInBounds_toArray, List.set_cons_zero, List.set_cons_succ])
        refine wpAnyH_take (i := 13) (v := ?_) (by rw [List.getElem?_toArray]; rfl) (by kernel_rfl) (by kernel_rfl) (by kernel_rfl) (by intro _ _ _ h; exact h) (Or.inl ⟨by rfl, ?_⟩) (by assumption) ?_
        rotate_left
        · (intro w hSw; (try dsimp only at hSw); go_simp; all_goals with_reducible rfl)
        (try simp only [Act.put, List.setIfInBounds_toArray, List.set_cons_zero, List.set_cons_succ])
        refine wpAnyH_done (by kernel_rfl) ?_ _
        go_wp2_with fail
        go_meet
        case rel => exact ⟨_, rfl, rfl, N.two _ _, hj, R.but (two_but _ _ _ _) (by omega), B.trans ((two_but _ _ _ _).below (by omega) B.size)⟩
      · go_simp
        (have N := Bx2.new v (.int .i64 0) (.int .i64 0) 38); (have hj : w.heap.size + 2 < v.heap.size := r0); clear a0 a1 a2 a3 a4 a5 a6 a7 a8 a9 b1 q0 q1 q2 q3 q4 r0 r1 r2 r3 r4; (try clear n0 n1 n2 n3 n4); (replace P := P.alloc (.cells #[.int .i64 0, .int .i64 0] 38)); (replace Q := Q.alloc (.cells #[.int .i64 0, .int .i64 0] 38)); (replace R := R.alloc (.cells #[.int .i64 0, .int .i64 0] 38)); (replace B := B.alloc B.size (.cells #[.int .i64 0, .int .i64 0] 38)); (generalize v.alloc (.cells #[.int .i64 0, .int .i64 0] 38) = v2 at *); obtain ⟨a0, a1, a2, a3, a4, a5, a6, a7, a8, a9, b1⟩ := id P; obtain ⟨q0, q1, q2, q3, q4⟩ := id Q; obtain ⟨r0, r1, r2, r3, r4⟩ := id R; (try (obtain ⟨n0, n1, n2, n3, n4⟩ := id N))
        refine hK.out _ _ ?_ (fun hHeld => ?_)
        · first | exact ⟨a2, a3, a4, q1, q2⟩ | (simp (maxDischargeDepth := 6) [go_sem, *]; done)
        clear hK K
        (try simp only [Act.put, List.setIfInBounds_toArray, List.set_cons_zero, List.set_cons_succ])
        refine wpAnyH_ready (rs := [7]) (by kernel_rfl) (by simp) ?_
        refine (AllReadyH.cons (by rw [List.getElem?_toArray]; rfl) (fun K hK => ?_) AllReadyH.nil)
        go_simp
        refine (CB _).mono ?_; rintro e v ⟨rfl, hb⟩; clear a0 a1 a2 a3 a4 a5 a6 a7 a8 a9 b1 q0 q1 q2 q3 q4 r0 r1 r2 r3 r4; (try clear n0 n1 n2 n3 n4); (replace P := P.below hb); (replace Q := Q.below hb); (replace R := R.below hb); (try (replace N := N.below hb)); (replace B := B.trans (hb.mono B.size)); clear hb; obtain ⟨a0, a1, a2, a3, a4, a5, a6, a7, a8, a9, b1⟩ := id P; obtain ⟨q0, q1, q2, q3, q4⟩ := id Q; obtain ⟨r0, r1, r2, r3, r4⟩ := id R; (try (obtain ⟨n0, n1, n2, n3, n4⟩ := id N))
        (try go_wp2_with fail)
        refine hK.out _ _ ?_ (fun hHeld => ?_)
        · first | exact ⟨a2, a3, a4, q1, q2⟩ | (simp (maxDischargeDepth := 6) [go_sem, *]; done)
        clear hK K
        (try simp only [Act.put, List.setIfInBounds_toArray, List.set_cons_zero, List.set_cons_succ])
        refine wpAnyH_take (i := 8) (v := ?_) (by rw [List.getElem?_toArray]; rfl) (by kernel_rfl) (by kernel_rfl) (by kernel_rfl) (by intro _ _ _ h; exact h) (Or.inl ⟨by rfl, ?_⟩) (by assumption) ?_
        rotate_left
        · (intro w hSw; (try dsimp only at hSw); go_simp; all_goals with_reducible rfl)
        (try simp only [Act.put, List.setIfInBounds_toArray, List.set_cons_zero, List.set_cons_succ])
        refine wpAnyH_take (i := 9) (v := ?_) (by rw [List.getElem?_toArray]; rfl) (by kernel_rfl) (by kernel_rfl) (by kernel_rfl) (by intro _ _ _ h; exact h) (Or.inl ⟨by rfl, ?_⟩) (by assumption) ?_
        rotate_left
        · (intro w hSw; (try dsimp only at hSw); go_simp; all_goals with_reducible rfl)
        (try simp only [Act.put, List.setIfInBounds_toArray, List.set_cons_zero, List.set_cons_succ])
        refine wpAnyH_take (i := 10) (v := ?_) (by rw [List.getElem?_toArray]; rfl) (by kernel_rfl) (by kernel_rfl) (by kernel_rfl) (by intro _ _ _ h; exact h) (Or.inl ⟨by rfl, ?_⟩) (by assumption) ?_
        rotate_left
        · (intro w hSw; (try dsimp only at hSw); go_simp; all_goals with_reducible rfl)
        (try simp only [Act.put, List.setIfInBounds_toArray, List.set_cons_zero, List.set_cons_succ])
        refine wpAnyH_ready (rs := [12]) (by kernel_rfl) (by simp) ?_
        refine (AllReadyH.cons (by rw [List.getElem?_toArray]; rfl) (fun K hK => ?_) AllReadyH.nil)
        go_simp
        refine hK.out _ _ ?_ (fun hHeld => ?_)
        · first | exact ⟨a2, a3, a4, q1, q2⟩ | (simp (maxDischargeDepth := 6) [go_sem, *]; done)
        clear hK K
        (try simp only [Act.put, List.setIfInBounds_toArray, List.set_cons_zero, List.set_cons_succ])
        refine wpAnyH_take (i := 13) (v := ?_) (by rw [List.getElem?_toArray]; rfl) (by kernel_rfl) (by kernel_rfl) (by kernel_rfl) (by intro _ _ _ h; exact h) (Or.inl ⟨by rfl, ?_⟩) (by assumption) ?_
        rotate_left
        · (intro w hSw; (try dsimp only at hSw); go_simp; all_goals with_reducible rfl)
        (try simp only [Act.put, List.setIfInBounds_toArray, List.set_cons_zero, List.set_cons_succ])
        refine wpAnyH_done (by kernel_rfl) ?_ _
        go_wp2_with fail
        go_meet
        case rel => exact ⟨_, rfl, rfl, N.two _ _, hj, R.but (two_but _ _ _ _) (by omega), B.trans ((two_but _ _ _ _).below (by omega) B.size)⟩
    · go_simp
      (have N := Bx2.new v (.int .i64 0) (.int .i64 0) 38); (have hj : w.heap.size + 2 < v.heap.size := r0); clear a0 a1 a2 a3 a4 a5 a6 a7 a8 a9 b1 q0 q1 q2 q3 q4 r0 r1 r2 r3 r4; (try clear n0 n1 n2 n3 n4); (replace P := P.alloc (.cells #[.int .i64 0, .int .i64 0] 38)); (replace Q := Q.alloc (.cells #[.int .i64 0, .int .i64 0] 38)); (replace R := R.alloc (.cells #[.int .i64 0, .int .i64 0] 38)); (replace B := B.alloc B.size (.cells #[.int .i64 0, .int .i64 0] 38)); (generalize v.alloc (.cells #[.int .i64 0, .int .i64 0] 38) = v2 at *); obtain ⟨a0, a1, a2, a3, a4, a5, a6, a7, a8, a9, b1⟩ := id P; obtain ⟨q0, q1, q2, q3, q4⟩ := id Q; obtain ⟨r0, r1, r2, r3, r4⟩ := id R; (try (obtain ⟨n0, n1, n2, n3, n4⟩ := id N))
      refine hK.out _ _ ?_ (fun hHeld => ?_)
      · first | exact ⟨a2, a3, a4, q1, q2⟩ | (simp (maxDischargeDepth := 6) [go_sem, *]; done)
      clear hK K
      (try simp only [Act.put, List.setIfInBounds_toArray, List.set_cons_zero, List.set_cons_succ])
      refine wpAnyH_ready (rs := [4]) (by kernel_rfl) (by simp) ?_
      refine (AllReadyH.cons (by rw [List.getElem?_toArray]; rfl) (fun K hK => ?_) AllReadyH.nil)
      go_simp
      refine (knownAt_any _ _ _ _).mono ?_; rintro e v ⟨rfl, hb⟩; clear a0 a1 a2 a3 a4 a5 a6 a7 a8 a9 b1 q0 q1 q2 q3 q4 r0 r1 r2 r3 r4; (try clear n0 n1 n2 n3 n4); (replace P := P.below hb); (replace Q := Q.below hb); (replace R := R.below hb); (try (replace N := N.below hb)); (replace B := B.trans (hb.mono B.size)); clear hb; obtain ⟨a0, a1, a2, a3, a4, a5, a6, a7, a8, a9, b1⟩ := id P; obtain ⟨q0, q1, q2, q3, q4⟩ := id Q; obtain ⟨r0, r1, r2, r3, r4⟩ := id R; (try (obtain ⟨n0, n1, n2, n3, n4⟩ := id N))
      (try go_wp2_with fail)
      refine hK.out _ _ ?_ (fun hHeld => ?_)
      · first | exact ⟨a2, a3, a4, q1, q2⟩ | (simp (maxDischargeDepth := 6) [go_sem, *]; done)
      clear hK K
      (try simp only [Act.put, List.setIfInBounds_toArray, List.set_cons_zero, List.set_cons_succ])
      refine wpAnyH_ready (rs := [7]) (by kernel_rfl) (by simp) ?_
      refine (AllReadyH.cons (by rw [List.getElem?_toArray]; rfl) (fun K hK => ?_) AllReadyH.nil)
      go_simp
      refine (CB _).mono ?_; rintro e v ⟨rfl, hb⟩; clear a0 a1 a2 a3 a4 a5 a6 a7 a8 a9 b1 q0 q1 q2 q3 q4 r0 r1 r2 r3 r4; (try clear n0 n1 n2 n3 n4); (replace P := P.below hb); (replace Q := Q.below hb); (replace R := R.below hb); (try (replace N := N.below hb)); (replace B := B.trans (hb.mono B.size)); clear hb; obtain ⟨a0, a1, a2, a3, a4, a5, a6, a7, a8, a9, b1⟩ := id P; obtain ⟨q0, q1, q2, q3, q4⟩ := id Q; obtain ⟨r0, r1, r2, r3, r4⟩ := id R; (try (obtain ⟨n0, n1, n2, n3, n4⟩ := id N))
      (try go_wp2_with fail)
      refine hK.out _ _ ?_ (fun hHeld => ?_)
      · first | exact ⟨a2, a3, a4, q1, q2⟩ | (simp (maxDischargeDepth := 6) [go_sem, *]; done)
      clear hK K
      (try simp only [Act.put, List.setIfInBounds_toArray, List.set_cons_zero, List.set_cons_succ])
      refine wpAnyH_take (i := 8) (v := ?_) (by rw [List.getElem?_toArray]; rfl) (by kernel_rfl) (by kernel_rfl) (by kernel_rfl) (by intro _ _ _ h; exact h) (Or.inl ⟨by rfl, ?_⟩) (by assumption) ?_
      rotate_left
      · (intro w hSw; (try dsimp only at hSw); go_simp; all_goals with_reducible rfl)
      (try simp only [Act.put, List.setIfInBounds_toArray, List.set_cons_zero, List.set_cons_succ])
      refine wpAnyH_take (i := 9) (v := ?_) (by rw [List.getElem?_toArray]; rfl) (by kernel_rfl) (by kernel_rfl) (by kernel_rfl) (by intro _ _ _ h; exact h) (Or.inl ⟨by rfl, ?_⟩) (by assumption) ?_
      rotate_left
      · (intro w hSw; (try dsimp only at hSw); go_simp; all_goals with_reducible rfl)
      (try simp only [Act.put, List.setIfInBounds_toArray, List.set_cons_zero, List.set_cons_succ])
      refine wpAnyH_take (i := 10) (v := ?_) (by rw [List.getElem?_toArray]; rfl) (by kernel_rfl) (by kernel_rfl) (by kernel_rfl) (by intro _ _ _ h; exact h) (Or.inl ⟨by rfl, ?_⟩) (by assumption) ?_
      rotate_left
      · (intro w hSw; (try dsimp only at hSw); go_simp; all_goals with_reducible rfl)
      (try simp only [Act.put, List.setIfInBounds_toArray, List.set_cons_zero, List.set_cons_succ])
      refine wpAnyH_ready (rs := [12]) (by kernel_rfl) (by simp) ?_
      refine (AllReadyH.cons (by rw [List.getElem?_toArray]; rfl) (fun K hK => ?_) AllReadyH.nil)
      go_simp
      refine hK.out _ _ ?_ (fun hHeld => ?_)
      · first | exact ⟨a2, a3, a4, q1, q2⟩ | (simp (maxDischargeDepth := 6) [go_sem, *]; done)
      clear hK K
      (try simp only [Act.put, List.setIfInBounds_toArray, List.set_cons_zero, List.set_cons_succ])
      refine wpAnyH_take (i := 13) (v := ?_) (by rw [List.getElem?_toArray]; rfl) (by kernel_rfl) (by kernel_rfl) (by kernel_rfl) (by intro _ _ _ h; exact h) (Or.inl ⟨by rfl, ?_⟩) (by assumption) ?_
      rotate_left
      · (intro w hSw; (try dsimp only at hSw); go_simp; all_goals with_reducible rfl)
      (try simp only [Act.put, List.setIfInBounds_toArray, List.set_cons_zero, List.set_cons_succ])
      refine wpAnyH_done (by kernel_rfl) ?_ _
      go_wp2_with fail
      go_meet
      case rel => exact ⟨_, rfl, rfl, N.two _ _, hj, R.but (two_but _ _ _ _) (by omega), B.trans ((two_but _ _ _ _).below (by omega) B.size)⟩
  case rest =>
    obtain ⟨j, rfl, rfl, N, hj, R', B'⟩ := hcut
    clear P Q R B a0 a1 a2 a3 a4 a5 a6 a7 a8 a9 b1 q0 q1 q2 q3 q4 r0 r1 r2 r3 r4
    obtain ⟨r0, r1, r2, r3, r4⟩ := id R'
    obtain ⟨n0, n1, n2, n3, n4⟩ := id N
    go_wp2_with fail
    exact bodyPost_ret (v := (.tuple #[.agg #[.int .i64 U, .int .i64 D], .bool (C == 0)])) (by simp (maxDischargeDepth := 6) [results, Try.results35, go_sem, *]) rfl ⟨rfl, B'.trans ((two_but _ _ _ _).below (by omega) B'.size)⟩
set_option maxRecDepth 100000 in
set_option maxHeartbeats 16000000 in
theorem specPeersCarried_any (a : Option Addr) (m c : Nat) (M : Nat → PT) (n d x y : Int) (w : World) (hm : m ≤ maxLen) (hs : SrcC w a (m * 5) (MFPeer M)) :
    Calls Try.prog 13 #[.slice a m c, .agg #[.int .i64 n, .int .i64 d], .int .i64 x, .int .i64 y] w fun e w' => ∃ v0 v1, e = .returned (.tuple #[v0, v1]) ∧ w'.ownsRow w.heap.size 38 2 v0 ((caL M m n d x y).map cV).length (vrow ((caL M m n d x y).map cV)) ∧ w'.ownsRow w.heap.size 3 1 v1 ((caL M m n d x y).map cI).length (irow ((caL M m n d x y).map cI)) ∧ Below w.heap.size w w' := by
  have HS : Hid (SrcC w a (m * 5) (MFPeer M)) := hs
  have HPL : Hid (∀ k, k < (frL M m x y).length → ∃ P : Nat, gI (frL M m x y) k = (P : Int) ∧ P < m) := fun k hk => frL_place hk
  have hFl := PeersFresh_len M m x y
  have HCL : Hid (caL M m n d x y = caK M n d x (frL M m x y) (frL M m x y).length) := rfl
  have C1 := fun (v : World) (hb : Below w.heap.size w v) => specPeersFresh_any a m c M x y v hm (HS.out.below hb)
  have Q := Bx2.new w (.int .i64 n) (.int .i64 d) 25
  have B := Below.nw w (.cells #[.int .i64 n, .int .i64 d] 25)
  have hmm : m ≤ 9223372036854775807 := hm
  clear hs
  rw [HCL.out]
  generalize frL M m x y = Fr at *
  clear HCL
  go_enter Try.func13, Try.ntmps13
  go_upto_region 1 with fail
  have hw0 : (w.alloc (.cells #[.int .i64 n, .int .i64 d] 25)).heap.size = w.heap.size + 1 := by simp
  generalize w.alloc (.cells #[.int .i64 n, .int .i64 d] 25) = w0 at *
  have A1 := Below.nw w0 (.cells #[] 38)
  have O1 := made_ival w0
  have A2 := Below.nw (w0.alloc (.cells #[] 38)) (.cells #[] 3)
  have O2 := made_int (w0.alloc (.cells #[] 38))
  replace O1 := own_belK' O1 A2
  replace Q := (Q.below A1).below A2
  replace B := (B.trans (A1.mono B.size)).trans (A2.mono (B.trans (A1.mono B.size)).size)
  simp only [World.size_alloc] at O2
  rw [hw0] at O1 O2
  go_upto_region 2 with fail
  clear A1 A2
  have hw1 : w.heap.size + 3 ≤ ((w0.alloc (.cells #[] 38)).alloc (.cells #[] 3)).heap.size := by simp [hw0]
  generalize (w0.alloc (.cells #[] 38)).alloc (.cells #[] 3) = w1 at *
  go_wp2_with fail
  refine (C1 _ B).mono ?_
  rintro e w2 ⟨vf, rfl, OF, hb⟩
  have ST : CaSt w n d vf Fr [] [] (.slice (some ⟨w.heap.size + 1, 0, none⟩) 0 0) (.slice (some ⟨w.heap.size + 1 + 1, 0, none⟩) 0 0) w2 := ⟨Q.below hb, own_base OF (by omega), own_belK' O1 hb, own_belK' (own_base O2 (by omega)) hb, fun g hg hg' => by have := (World.ownsRow.lt OF g hg).1; simp [Value.ownBlock] at hg'; omega, fun g hg hg' => by have := (World.ownsRow.lt OF g hg).1; simp [Value.ownBlock] at hg'; omega, fun g hg hg' => by simp [Value.ownBlock] at hg hg'; omega, B.trans (hb.mono B.size)⟩
  clear C1 Q O1 O2 OF hb B hw0 hw1
  obtain ⟨af, cf, rfl, _, _, _⟩ := ownF_src ST.2.1
  go_wp2_with fail
  go_loopw [10, 11, 13] (fun vo vi i wr => ∃ k : Nat, k ≤ Fr.length ∧ i = .int .i64 k ∧ CaSt w n d (.slice af Fr.length cf) Fr ((caK M n d x Fr k).map cV) ((caK M n d x Fr k).map cI) vo vi wr) (fun _ _ i _ => Fr.length - (intOf i).toNat)
  case atStart => exact ⟨0, Nat.zero_le _, rfl, ST⟩
  case round =>
    clear ST
    obtain ⟨k, hk, rfl, ST⟩ := hrel
    by_cases hlt : k < Fr.length
    · obtain ⟨gb, gc, egf, hgl, hgc⟩ := ST.place hlt
      simp at egf
      obtain ⟨rfl, rfl⟩ := egf
      obtain ⟨P, hP, hPm⟩ := HPL.out k hlt
      rw [hP] at hgc
      obtain ⟨b, off, rfl, hf⟩ := HS.out.some (by omega)
      obtain ⟨x0, x1, x2, x3, x4, hM⟩ := tupPeer M P
      have HCB : Hid (∀ wq, Below w.heap.size w wq → Cs wq b off (m * 5) (MFPeer M)) := fun wq hb => hf.below hb hf.1
      have hbw : b < w.heap.size := hf.1
      have hli : (k : Int) < (Fr.length : Int) := by omega
      have hPi : (P : Int) < (m : Int) := by omega
      have hKl := caK_len M n d x Fr k
      have HY : Hid (crC true x1 x2 x3 n d x = 0 → caK M n d x Fr (k + 1) = caK M n d x Fr k ++ [(x0, crL true x1 x2 x3 n d x, crH true x1 x2 x3 n d x)]) := fun h => by
        have q := caK_yes (M := M) (n := n) (d := d) (x := x) (Fr := Fr) (k := k) (by rw [hP, Int.toNat_natCast, hM]; exact h)
        rw [hP, Int.toNat_natCast, hM] at q
        exact q
      have HNn : Hid (crC true x1 x2 x3 n d x ≠ 0 → caK M n d x Fr (k + 1) = caK M n d x Fr k) := fun h => caK_no (by rw [hP, Int.toNat_natCast, hM]; exact h)
      have HM : Hid (M P = (x0, x1, x2, x3, x4)) := hM
      clear hM hP hf
      have CC := fun v => specCarryOn_any true x1 x2 x3 n d x v
      generalize caK M n d x Fr k = K at *
      generalize crL true x1 x2 x3 n d x = U at *
      generalize crH true x1 x2 x3 n d x = D at *
      generalize crC true x1 x2 x3 n d x = C at *
      obtain ⟨c0, c1, c2, c3, c4⟩ := (HCB.out wr ST.2.2.2.2.2.2.2).elPeer hPm HM.out
      have hbr : b < wr.heap.size := Nat.lt_of_lt_of_le hbw ST.2.2.2.2.2.2.2.size
      have hlk : (K.map cV).length ≤ 9 := by rw [List.length_map]; omega
      have hlk2 : (K.map cI).length ≤ 9 := by rw [List.length_map]; omega
      have A1 := Below.nw wr (.cells #[.int .i64 x0, .int .i64 x1, .int .i64 x2, .int .i64 x3, .bool x4] 51)
      have KB := Bx5.new wr (.int .i64 x0) (.int .i64 x1) (.int .i64 x2) (.int .i64 x3) (.bool x4) 51
      have HLT : Hid (∀ g, u10.ownBlock = some g → g < wr.heap.size) := ST.lts.2.2.1
      go_upto_region 7 with fail
      clear c0 c1 c2 c3 c4 hgc
      replace ST := ST.below A1
      clear hbr hgl A1
      generalize hbk : wr.heap.size = bk at *
      generalize wr.alloc (.cells #[.int .i64 x0, .int .i64 x1, .int .i64 x2, .int .i64 x3, .bool x4] 51) = w3 at *
      obtain ⟨k9, k0, k1, k2, k3, k4, f0, f1, f2, f3, f4⟩ := id KB
      obtain ⟨q0, q1, q2, q3, q4⟩ := ST.1
      go_wp2_with fail
      refine (CC _).mono ?_
      rintro e w4 ⟨rfl, hb⟩
      clear k9 k0 k1 k2 k3 k4 f0 f1 f2 f3 f4 q0 q1 q2 q3 q4 CC
      replace ST := ST.below hb
      replace KB := KB.below hb
      clear hb
      have A2 := Below.nw w4 (.cells #[.int .i64 U, .int .i64 D] 38)
      have N := Bx2.new w4 (.int .i64 U) (.int .i64 D) 38
      go_upto_region 8 with fail
      replace ST := ST.below A2
      replace KB := KB.below A2
      clear A2
      generalize hbn : w4.heap.size = bn at *
      generalize w4.alloc (.cells #[.int .i64 U, .int .i64 D] 38) = w5 at *
      have hKBO : Hid (∀ g, u10.ownBlock = some g → g < bk) := HLT
      obtain ⟨n0, n1, n2, n3, n4⟩ := id N
      obtain ⟨k9, k0, k1, k2, k3, k4, f0, f1, f2, f3, f4⟩ := id KB
      by_cases hC : C = 0
      · have HT : Hid (caK M n d x Fr (k + 1) = K ++ [(x0, U, D)]) := HY.out hC
        subst hC
        have hs5 := ST.lts
        have OW := ST.2.2.1
        clear HY HNn
        go_upto_region 10 with (at_builtin; refine add_ival rfl _ _ rfl (w.heap.size + 1) (K.map cV) _ rfl OW rfl (by omega) (by omega) ?_; intro v' w9 O9 hg9 hn9)
        have ST9 := ST.addV O9 hg9 hn9
        have KB9 := KB.kept hg9 (fun e => by have := hKBO.out _ e.symm; omega)
        clear OW O9 hg9 hn9 n0 n1 n2 n3 n4 N
        clear k9 k0 k1 k2 k3 k4 f0 f1 f2 f3 f4 KB
        obtain ⟨k9, k0, k1, k2, k3, k4, f0, f1, f2, f3, f4⟩ := id KB9
        have hs9 := ST9.lts
        have OI := ST9.2.2.2.1
        go_wp2_with (at_builtin; refine add_int rfl _ _ rfl (w.heap.size + 1) (K.map cI) _ rfl OI rfl (by omega) (by omega) ?_; intro v2 w10 O10 hg10 hn10)
        have ST10 : Hid (CaSt w n d _ Fr (K.map cV ++ [(U, D)]) (K.map cI ++ [x0]) v' v2 w10) := ST9.addI O10 hg10 hn10
        clear OI O10 hg10 hn10 ST9 ST k9 k0 k1 k2 k3 k4 f0 f1 f2 f3 f4 KB9
        go_wp2_with fail
        go_roundw
        case rel => exact ⟨k + 1, by omega, by go_num, by rw [HT.out, List.map_append, List.map_append]; exact ST10.out⟩
        case measure => simp [intOf]; omega
      · have HT : Hid (caK M n d x Fr (k + 1) = K) := HNn.out hC
        have hC' : (C == 0) = false := by simp [hC]
        clear HY HNn
        go_wp2_with fail
        go_roundw
        case rel => exact ⟨k + 1, by omega, by go_num, by rw [HT.out]; exact ST⟩
        case measure => simp [intOf]; omega
    · have hkn : k = Fr.length := by omega
      have hli : ¬ (k : Int) < (Fr.length : Int) := by omega
      subst hkn
      obtain ⟨av, cv, rfl, _, _, _⟩ := ownF_src ST.2.2.1
      obtain ⟨ai, ci, rfl, _, _, _⟩ := ownF_src ST.2.2.2.1
      go_wp2_with fail
      exact bodyPost_ret (v := (.tuple #[.slice av ((caK M n d x Fr Fr.length).map cV).length cv, .slice ai ((caK M n d x Fr Fr.length).map cI).length ci])) (by simp (maxDischargeDepth := 6) [results, Try.results13, go_sem, *]) rfl ⟨_, _, rfl, by simpa only [List.length_map] using own_base ST.2.2.1 (Nat.le_succ _), by simpa only [List.length_map] using own_base ST.2.2.2.1 (Nat.le_succ _), ST.2.2.2.2.2.2.2⟩
set_option maxRecDepth 100000 in
set_option maxHeartbeats 16000000 in
theorem implPeersCarried_w (a : Option Addr) (m c : Nat) (M : Nat → PT) (n d x y : Int) (w : World) (hm : m ≤ maxLen) (hs : SrcC w a (m * 5) (MFPeer M)) :
    Calls Try.prog 12 #[.slice a m c, .agg #[.int .i64 n, .int .i64 d], .int .i64 x, .int .i64 y] w fun e w' => ∃ v0 v1, e = .returned (.tuple #[v0, v1]) ∧ w'.ownsRow w.heap.size 38 2 v0 ((caL M m n d x y).map cV).length (vrow ((caL M m n d x y).map cV)) ∧ w'.ownsRow w.heap.size 3 1 v1 ((caL M m n d x y).map cI).length (irow ((caL M m n d x y).map cI)) ∧ ApR v0 v1 ∧ Below w.heap.size w w' := by
  have HS : Hid (SrcC w a (m * 5) (MFPeer M)) := hs
  have HPL : Hid (∀ k, k < (frL M m x y).length → ∃ P : Nat, gI (frL M m x y) k = (P : Int) ∧ P < m) := fun k hk => frL_place hk
  have hFl := PeersFresh_len M m x y
  have HCL : Hid (caL M m n d x y = caK M n d x (frL M m x y) (frL M m x y).length) := rfl
  have C1 := fun (v : World) (hb : Below w.heap.size w v) => implPeersFresh_w a m c M x y v hm (HS.out.below hb)
  have Q := Bx2.new w (.int .i64 n) (.int .i64 d) 25
  have B := Below.nw w (.cells #[.int .i64 n, .int .i64 d] 25)
  have hmm : m ≤ 9223372036854775807 := hm
  clear hs
  rw [HCL.out]
  generalize frL M m x y = Fr at *
  clear HCL
  go_enter Try.func12, Try.ntmps12
  go_upto_region 1 with fail
  have hw0 : (w.alloc (.cells #[.int .i64 n, .int .i64 d] 25)).heap.size = w.heap.size + 1 := by simp
  generalize w.alloc (.cells #[.int .i64 n, .int .i64 d] 25) = w0 at *
  go_wp2_with fail
  refine (C1 _ B).mono ?_
  rintro e w2 ⟨vf, rfl, OF, hb⟩
  have ST : CaSt w n d vf Fr [] [] (.slice none 0 0) (.slice none 0 0) w2 := ⟨Q.below hb, own_base OF (by omega), nil_ival _ _, nil_int _ _, fun g hg hg' => by simp [Value.ownBlock] at hg', fun g hg hg' => by simp [Value.ownBlock] at hg', fun g hg hg' => by simp [Value.ownBlock] at hg, B.trans (hb.mono B.size)⟩
  clear C1 Q OF hb B hw0
  obtain ⟨af, cf, rfl, _, _, _⟩ := ownF_src ST.2.1
  go_wp2_with fail
  go_loopw [10, 11, 21] (fun vo vi i wr => ∃ k : Nat, k ≤ Fr.length ∧ i = .int .i64 k ∧ CaSt w n d (.slice af Fr.length cf) Fr ((caK M n d x Fr k).map cV) ((caK M n d x Fr k).map cI) vo vi wr) (fun _ _ i _ => Fr.length - (intOf i).toNat)
  case atStart => exact ⟨0, Nat.zero_le _, rfl, ST⟩
  case round =>
    clear ST
    obtain ⟨k, hk, rfl, ST⟩ := hrel
    by_cases hlt : k < Fr.length
    · obtain ⟨gb, gc, egf, hgl, hgc⟩ := ST.place hlt
      simp at egf
      obtain ⟨rfl, rfl⟩ := egf
      obtain ⟨P, hP, hPm⟩ := HPL.out k hlt
      rw [hP] at hgc
      obtain ⟨b, off, rfl, hf⟩ := HS.out.some (by omega)
      obtain ⟨x0, x1, x2, x3, x4, hM⟩ := tupPeer M P
      have HCB : Hid (∀ wq, Below w.heap.size w wq → Cs wq b off (m * 5) (MFPeer M)) := fun wq hb => hf.below hb hf.1
      have hbw : b < w.heap.size := hf.1
      have hli : (k : Int) < (Fr.length : Int) := by omega
      have hPi : (P : Int) < (m : Int) := by omega
      have hKl := caK_len M n d x Fr k
      have HY : Hid (crC true x1 x2 x3 n d x = 0 → caK M n d x Fr (k + 1) = caK M n d x Fr k ++ [(x0, crL true x1 x2 x3 n d x, crH true x1 x2 x3 n d x)]) := fun h => by
        have q := caK_yes (M := M) (n := n) (d := d) (x := x) (Fr := Fr) (k := k) (by rw [hP, Int.toNat_natCast, hM]; exact h)
        rw [hP, Int.toNat_natCast, hM] at q
        exact q
      have HNn : Hid (crC true x1 x2 x3 n d x ≠ 0 → caK M n d x Fr (k + 1) = caK M n d x Fr k) := fun h => caK_no (by rw [hP, Int.toNat_natCast, hM]; exact h)
      have HM : Hid (M P = (x0, x1, x2, x3, x4)) := hM
      clear hM hP hf
      have CC := fun v => carried_any x0 x1 x2 x3 x4 n d x v
      generalize caK M n d x Fr k = K at *
      generalize crL true x1 x2 x3 n d x = U at *
      generalize crH true x1 x2 x3 n d x = D at *
      generalize crC true x1 x2 x3 n d x = C at *
      obtain ⟨c0, c1, c2, c3, c4⟩ := (HCB.out wr ST.2.2.2.2.2.2.2).elPeer hPm HM.out
      have hbr : b < wr.heap.size := Nat.lt_of_lt_of_le hbw ST.2.2.2.2.2.2.2.size
      have hlk : (K.map cV).length ≤ 9 := by rw [List.length_map]; omega
      have hlk2 : (K.map cI).length ≤ 9 := by rw [List.length_map]; omega
      go_upto_region 6 with fail
      clear hgc hgl
      obtain ⟨q0, q1, q2, q3, q4⟩ := ST.1
      go_cut [14, 15] (fun s8 s9 wx => ∃ j : Nat, s8 = .pointer (some ⟨j, 0, none⟩) ∧ s9 = .bool (C == 0) ∧ Bx2 wx j (.int .i64 U) (.int .i64 D) ∧ CaSt w n d (.slice (some ⟨gb, 0, none⟩) Fr.length cf) Fr (K.map cV) (K.map cI) u10 u11 wx ∧ b < wx.heap.size)
      case first =>
        refine wp_region_held_drew (S := (fun w' => w'.cell? ⟨b, off + P * 5, none⟩ = some (.int .i64 x0) ∧ w'.cell? ⟨b, off + P * 5 + 1, none⟩ = some (.int .i64 x1) ∧ w'.cell? ⟨b, off + P * 5 + 2, none⟩ = some (.int .i64 x2) ∧ w'.cell? ⟨b, off + P * 5 + 3, none⟩ = some (.int .i64 x3) ∧ w'.cell? ⟨b, off + P * 5 + 4, none⟩ = some (.bool x4) ∧ w'.cell? ⟨w.heap.size, 0, none⟩ = some (.int .i64 n) ∧ w'.cell? ⟨w.heap.size, 1, none⟩ = some (.int .i64 d))) (by kernel_rfl) ?_ (fun hHeld => ?_)
        · first | exact ⟨c0, c1, c2, c3, c4, q1, q2⟩ | (simp (maxDischargeDepth := 6) [go_sem, *]; done)
        clear q0 q1 q2 q3 q4 c0 c1 c2 c3 c4
        replace ST := ST.drew
        replace hbr : b < wr.drew.heap.size := hbr
        generalize wr.drew = v at *
        obtain ⟨q0, q1, q2, q3, q4⟩ := ST.1; obtain ⟨c0, c1, c2, c3, c4⟩ := (HCB.out _ ST.2.2.2.2.2.2.2).elPeer hPm HM.out; (try (obtain ⟨n0, n1, n2, n3, n4⟩ := id N))
        refine wpAnyH_take (i := 0) (v := ?_) (by rw [List.getElem?_toArray]; rfl) (by kernel_rfl) (by kernel_rfl) (by kernel_rfl) (by intro _ _ _ h; exact h) (Or.inl ⟨by rfl, ?_⟩) (by assumption) ?_
        rotate_left
        · (intro w hSw; (try dsimp only at hSw); go_simp; all_goals with_reducible rfl)
        (try simp only [Act.put, List.setIfInBounds_toArray, List.set_cons_zero, List.set_cons_succ])
        refine wpAnyH_take (i := 1) (v := ?_) (by rw [List.getElem?_toArray]; rfl) (by kernel_rfl) (by kernel_rfl) (by kernel_rfl) (by intro _ _ _ h; exact h) (Or.inl ⟨by rfl, ?_⟩) (by assumption) ?_
        rotate_left
        · (intro w hSw; (try dsimp only at hSw); go_simp; all_goals with_reducible rfl)
        (try simp only [Act.put, List.setIfInBounds_toArray, List.set_cons_zero, List.set_cons_succ])
        refine wpAnyH_take (i := 2) (v := ?_) (by rw [List.getElem?_toArray]; rfl) (by kernel_rfl) (by kernel_rfl) (by kernel_rfl) (by intro _ _ _ h; exact h) (Or.inl ⟨by rfl, ?_⟩) (by assumption) ?_
        rotate_left
        · (intro w hSw; (try dsimp only at hSw); go_simp; all_goals with_reducible rfl)
        (try simp only [Act.put, List.setIfInBounds_toArray, List.set_cons_zero, List.set_cons_succ])
        refine wpAnyH_take (i := 3) (v := ?_) (by rw [List.getElem?_toArray]; rfl) (by kernel_rfl) (by kernel_rfl) (by kernel_rfl) (by intro _ _ _ h; exact h) (Or.inl ⟨by rfl, ?_⟩) (by assumption) ?_
        rotate_left
        · (intro w hSw; (try dsimp only at hSw); go_simp; all_goals with_reducible rfl)
        (try simp only [Act.put, List.setIfInBounds_toArray, List.set_cons_zero, List.set_cons_succ])
        refine wpAnyH_take (i := 4) (v := ?_) (by rw [List.getElem?_toArray]; rfl) (by kernel_rfl) (by kernel_rfl) (by kernel_rfl) (by intro _ _ _ h; exact h) (Or.inl ⟨by rfl, ?_⟩) (by assumption) ?_
        rotate_left
        · (intro w hSw; (try dsimp only at hSw); go_simp; all_goals with_reducible rfl)
        (try simp only [Act.put, List.setIfInBounds_toArray, List.set_cons_zero, List.set_cons_succ])
        refine wpAnyH_take (i := 5) (v := ?_) (by rw [List.getElem?_toArray]; rfl) (by kernel_rfl) (by kernel_rfl) (by kernel_rfl) (by intro _ _ _ h; exact h) (Or.inl ⟨by rfl, ?_⟩) (by assumption) ?_
        rotate_left
        · (intro w hSw; (try dsimp only at hSw); go_simp; all_goals with_reducible rfl)
        (try simp only [Act.put, List.setIfInBounds_toArray, List.set_cons_zero, List.set_cons_succ])
        refine wpAnyH_ready (rs := [6, 10]) (by kernel_rfl) (by simp) ?_
        refine (AllReadyH.cons (by rw [List.getElem?_toArray]; rfl) (fun K hK => ?_) (AllReadyH.cons (by rw [List.getElem?_toArray]; rfl) (fun K hK => ?_) AllReadyH.nil))
        · go_simp
          refine (CC _).mono ?_; rintro e v ⟨rfl, hb⟩; clear q0 q1 q2 q3 q4 c0 c1 c2 c3 c4; (try clear n0 n1 n2 n3 n4); (replace ST := ST.below hb); (try (replace N := N.below hb)); (replace hbr := Nat.lt_of_lt_of_le hbr hb.size); clear hb; obtain ⟨q0, q1, q2, q3, q4⟩ := ST.1; obtain ⟨c0, c1, c2, c3, c4⟩ := (HCB.out _ ST.2.2.2.2.2.2.2).elPeer hPm HM.out; (try (obtain ⟨n0, n1, n2, n3, n4⟩ := id N))
          (try go_wp2_with fail)
          refine hK.out _ _ ?_ (fun hHeld => ?_)
          · first | exact ⟨c0, c1, c2, c3, c4, q1, q2⟩ | (simp (maxDischargeDepth := 6) [go_sem, *]; done)
          clear hK K
          (try simp only [Act.put, List.setIfInBounds_toArray, List.set_cons_zero, List.set_cons_succ])
          refine wpAnyH_take (i := 7) (v := ?_) (by rw [List.getElem?_toArray]; rfl) (by kernel_rfl) (by kernel_rfl) (by kernel_rfl) (by intro _ _ _ h; exact h) (Or.inl ⟨by rfl, ?_⟩) (by assumption) ?_
          rotate_left
          · (intro w hSw; (try dsimp only at hSw); go_simp; all_goals with_reducible rfl)
          (try simp only [Act.put, List.setIfInBounds_toArray, List.set_cons_zero, List.set_cons_succ])
          refine wpAnyH_take (i := 8) (v := ?_) (by rw [List.getElem?_toArray]; rfl) (by kernel_rfl) (by kernel_rfl) (by kernel_rfl) (by intro _ _ _ h; exact h) (Or.inl ⟨by rfl, ?_⟩) (by assumption) ?_
          rotate_left
          · (intro w hSw; (try dsimp only at hSw); go_simp; all_goals with_reducible rfl)
          (try simp only [Act.put, List.setIfInBounds_toArray, List.set_cons_zero, List.set_cons_succ])
          refine wpAnyH_take (i := 9) (v := ?_) (by rw [List.getElem?_toArray]; rfl) (by kernel_rfl) (by kernel_rfl) (by kernel_rfl) (by intro _ _ _ h; exact h) (Or.inl ⟨by rfl, ?_⟩) (by assumption) ?_
          rotate_left
          · (intro w hSw; (try dsimp only at hSw); go_simp; all_goals with_reducible rfl)
          (try simp only [Act.put, List.setIfInBounds_toArray, List.set_cons_zero, List.set_cons_succ])
          refine wpAnyH_ready (rs := [10]) (by kernel_rfl) (by simp) ?_
          refine (AllReadyH.cons (by rw [List.getElem?_toArray]; rfl) (fun K hK => ?_) AllReadyH.nil)
          go_simp
          (have N := Bx2.new v (.int .i64 0) (.int .i64 0) 38); (have hj := ST.lts); clear q0 q1 q2 q3 q4 c0 c1 c2 c3 c4; (try clear n0 n1 n2 n3 n4); (replace ST := ST.below (Below.nw v (.cells #[.int .i64 0, .int .i64 0] 38))); (replace hbr : b < (v.alloc (.cells #[.int .i64 0, .int .i64 0] 38)).heap.size := Nat.lt_of_lt_of_le hbr (by simp)); (generalize v.heap.size = jn at *); (generalize v.alloc (.cells #[.int .i64 0, .int .i64 0] 38) = v2 at *); obtain ⟨q0, q1, q2, q3, q4⟩ := ST.1; obtain ⟨c0, c1, c2, c3, c4⟩ := (HCB.out _ ST.2.2.2.2.2.2.2).elPeer hPm HM.out; (try (obtain ⟨n0, n1, n2, n3, n4⟩ := id N))
          refine hK.out _ _ ?_ (fun hHeld => ?_)
          · first | exact ⟨c0, c1, c2, c3, c4, q1, q2⟩ | (simp (maxDischargeDepth := 6) [go_sem, *]; done)
          clear hK K
          (try simp only [Act.put, List.setIfInBounds_toArray, List.set_cons_zero, List.set_cons_succ])
          refine wpAnyH_ready (rs := [11]) (by kernel_rfl) (by simp) ?_
          refine (AllReadyH.cons (by rw [List.getElem?_toArray]; rfl) (fun K hK => ?_) AllReadyH.nil)
          go_simp
          refine hK.out _ _ ?_ (fun hHeld => ?_)
          · first | exact ⟨c0, c1, c2, c3, c4, q1, q2⟩ | (simp (maxDischargeDepth := 6) [go_sem, *]; done)
          clear hK K
          (try simp only [Act.put, List.setIfInBounds_toArray, List.set_cons_zero, List.set_cons_succ])
          refine wpAnyH_take (i := 12) (v := ?_) (by rw [List.getElem?_toArray]; rfl) (by kernel_rfl) (by kernel_rfl) (by kernel_rfl) (by intro _ _ _ h; exact h) (Or.inl ⟨by rfl, ?_⟩) (by assumption) ?_
          rotate_left
          · (intro w hSw; (try dsimp only at hSw); go_simp; all_goals with_reducible rfl)
          (try simp only [Act.put, List.setIfInBounds_toArray, List.set_cons_zero, List.set_cons_succ])
          refine wpAnyH_done (by kernel_rfl) ?_ _
          go_wp2_with fail
          go_meet
          case rel => exact ⟨_, rfl, rfl, N.two _ _, ST.but (two_but _ _ _ _) hj, by simpa using hbr⟩
        · go_simp
          (have N := Bx2.new v (.int .i64 0) (.int .i64 0) 38); (have hj := ST.lts); clear q0 q1 q2 q3 q4 c0 c1 c2 c3 c4; (try clear n0 n1 n2 n3 n4); (replace ST := ST.below (Below.nw v (.cells #[.int .i64 0, .int .i64 0] 38))); (replace hbr : b < (v.alloc (.cells #[.int .i64 0, .int .i64 0] 38)).heap.size := Nat.lt_of_lt_of_le hbr (by simp)); (generalize v.heap.size = jn at *); (generalize v.alloc (.cells #[.int .i64 0, .int .i64 0] 38) = v2 at *); obtain ⟨q0, q1, q2, q3, q4⟩ := ST.1; obtain ⟨c0, c1, c2, c3, c4⟩ := (HCB.out _ ST.2.2.2.2.2.2.2).elPeer hPm HM.out; (try (obtain ⟨n0, n1, n2, n3, n4⟩ := id N))
          refine hK.out _ _ ?_ (fun hHeld => ?_)
          · first | exact ⟨c0, c1, c2, c3, c4, q1, q2⟩ | (simp (maxDischargeDepth := 6) [go_sem, *]; done)
          clear hK K
          (try simp only [Act.put, List.setIfInBounds_toArray, List.set_cons_zero, List.set_cons_succ])
          refine wpAnyH_ready (rs := [6]) (by kernel_rfl) (by simp) ?_
          refine (AllReadyH.cons (by rw [List.getElem?_toArray]; rfl) (fun K hK => ?_) AllReadyH.nil)
          go_simp
          refine (CC _).mono ?_; rintro e v ⟨rfl, hb⟩; clear q0 q1 q2 q3 q4 c0 c1 c2 c3 c4; (try clear n0 n1 n2 n3 n4); (replace ST := ST.below hb); (try (replace N := N.below hb)); (replace hbr := Nat.lt_of_lt_of_le hbr hb.size); clear hb; obtain ⟨q0, q1, q2, q3, q4⟩ := ST.1; obtain ⟨c0, c1, c2, c3, c4⟩ := (HCB.out _ ST.2.2.2.2.2.2.2).elPeer hPm HM.out; (try (obtain ⟨n0, n1, n2, n3, n4⟩ := id N))
          (try go_wp2_with fail)
          refine hK.out _ _ ?_ (fun hHeld => ?_)
          · first | exact ⟨c0, c1, c2, c3, c4, q1, q2⟩ | (simp (maxDischargeDepth := 6) [go_sem, *]; done)
          clear hK K
          (try simp only [Act.put, List.setIfInBounds_toArray, List.set_cons_zero, List.set_cons_succ])
          refine wpAnyH_take (i := 7) (v := ?_) (by rw [List.getElem?_toArray]; rfl) (by kernel_rfl) (by kernel_rfl) (by kernel_rfl) (by intro _ _ _ h; exact h) (Or.inl ⟨by rfl, ?_⟩) (by assumption) ?_
          rotate_left
          · (intro w hSw; (try dsimp only at hSw); go_simp; all_goals with_reducible rfl)
          (try simp only [Act.put, List.setIfInBounds_toArray, List.set_cons_zero, List.set_cons_succ])
          refine wpAnyH_take (i := 8) (v := ?_) (by rw [List.getElem?_toArray]; rfl) (by kernel_rfl) (by kernel_rfl) (by kernel_rfl) (by intro _ _ _ h; exact h) (Or.inl ⟨by rfl, ?_⟩) (by assumption) ?_
          rotate_left
          · (intro w hSw; (try dsimp only at hSw); go_simp; all_goals with_reducible rfl)
          (try simp only [Act.put, List.setIfInBounds_toArray, List.set_cons_zero, List.set_cons_succ])
          refine wpAnyH_take (i := 9) (v := ?_) (by rw [List.getElem?_toArray]; rfl) (by kernel_rfl) (by kernel_rfl) (by kernel_rfl) (by intro _ _ _ h; exact h) (Or.inl ⟨by rfl, ?_⟩) (by assumption) ?_
          rotate_left
          · (intro w hSw; (try dsimp only at hSw); go_simp; all_goals with_reducible rfl)
          (try simp only [Act.put, List.setIfInBounds_toArray, List.set_cons_zero, List.set_cons_succ])
          refine wpAnyH_ready (rs := [11]) (by kernel_rfl) (by simp) ?_
          refine (AllReadyH.cons (by rw [List.getElem?_toArray]; rfl) (fun K hK => ?_) AllReadyH.nil)
          go_simp
          refine hK.out _ _ ?_ (fun hHeld => ?_)
          · first | exact ⟨c0, c1, c2, c3, c4, q1, q2⟩ | (simp (maxDischargeDepth := 6) [go_sem, *]; done)
          clear hK K
          (try simp only [Act.put, List.setIfInBounds_toArray, List.set_cons_zero, List.set_cons_succ])
          refine wpAnyH_take (i := 12) (v := ?_) (by rw [List.getElem?_toArray]; rfl) (by kernel_rfl) (by kernel_rfl) (by kernel_rfl) (by intro _ _ _ h; exact h) (Or.inl ⟨by rfl, ?_⟩) (by assumption) ?_
          rotate_left
          · (intro w hSw; (try dsimp only at hSw); go_simp; all_goals with_reducible rfl)
          (try simp only [Act.put, List.setIfInBounds_toArray, List.set_cons_zero, List.set_cons_succ])
          refine wpAnyH_done (by kernel_rfl) ?_ _
          go_wp2_with fail
          go_meet
          case rel => exact ⟨_, rfl, rfl, N.two _ _, ST.but (two_but _ _ _ _) hj, by simpa using hbr⟩
      case rest =>
        obtain ⟨bn, rfl, rfl, N, ST', hbr'⟩ := hcut
        clear ST hbr q0 q1 q2 q3 q4 c0 c1 c2 c3 c4
        have ST := ST'
        have hbr5 := hbr'
        clear ST' hbr' CC
        generalize wc = w5 at *
        obtain ⟨n0, n1, n2, n3, n4⟩ := id N
        by_cases hC : C = 0
        · have HT : Hid (caK M n d x Fr (k + 1) = K ++ [(x0, U, D)]) := HY.out hC
          subst hC
          have hs5 := ST.lts
          have OW := ST.2.2.1
          clear HY HNn
          go_upto_region 9 with (at_builtin; refine add_ival rfl _ _ rfl (w.heap.size + 1) (K.map cV) _ rfl OW rfl (by omega) (by omega) ?_; intro v' w9 O9 hg9 hn9)
          have ST9 := ST.addV O9 hg9 hn9
          clear OW O9 hg9 hn9 n0 n1 n2 n3 n4 N
          obtain ⟨c0, c1, c2, c3, c4⟩ := (HCB.out w9 ST9.2.2.2.2.2.2.2).elPeer hPm HM.out
          have hbr9 : b < w9.heap.size := Nat.lt_of_lt_of_le hbw ST9.2.2.2.2.2.2.2.size
          have hs9 := ST9.lts
          have OI := ST9.2.2.2.1
          go_wp2_with (at_builtin; refine add_int rfl _ _ rfl (w.heap.size + 1) (K.map cI) _ rfl OI rfl (by omega) (by omega) ?_; intro v2 w10 O10 hg10 hn10)
          have ST10 : Hid (CaSt w n d _ Fr (K.map cV ++ [(U, D)]) (K.map cI ++ [x0]) v' v2 w10) := ST9.addI O10 hg10 hn10
          clear OI O10 hg10 hn10 ST9 ST c0 c1 c2 c3 c4
          go_wp2_with fail
          go_roundw
          case rel => exact ⟨k + 1, by omega, by go_num, by rw [HT.out, List.map_append, List.map_append]; exact ST10.out⟩
          case measure => simp [intOf]; omega
        · have HT : Hid (caK M n d x Fr (k + 1) = K) := HNn.out hC
          have hC' : (C == 0) = false := by simp [hC]
          clear HY HNn
          rw [hC']
          go_wp2_with fail
          go_roundw
          case rel => exact ⟨k + 1, by omega, by go_num, by rw [HT.out]; exact ST⟩
          case measure => simp [intOf]; omega
    · have hkn : k = Fr.length := by omega
      have hli : ¬ (k : Int) < (Fr.length : Int) := by omega
      subst hkn
      obtain ⟨av, cv, rfl, _, _, _⟩ := ownF_src ST.2.2.1
      obtain ⟨ai, ci, rfl, _, _, _⟩ := ownF_src ST.2.2.2.1
      go_wp2_with fail
      exact bodyPost_ret (v := (.tuple #[.slice av ((caK M n d x Fr Fr.length).map cV).length cv, .slice ai ((caK M n d x Fr Fr.length).map cI).length ci])) (by simp (maxDischargeDepth := 6) [results, Try.results12, go_sem, *]) rfl ⟨_, _, rfl, by simpa only [List.length_map] using own_base ST.2.2.1 (Nat.le_succ _), by simpa only [List.length_map] using own_base ST.2.2.2.1 (Nat.le_succ _), ST.2.2.2.2.2.2.1, ST.2.2.2.2.2.2.2⟩
theorem implPeersCarried_any (a : Option Addr) (m c : Nat) (M : Nat → PT) (n d x y : Int) (w : World) (hm : m ≤ maxLen) (hs : SrcC w a (m * 5) (MFPeer M)) (w_dn : (Lit.int .i64 n).wf = true) (w_dd : (Lit.int .i64 d).wf = true) (wx : (Lit.int .i64 x).wf = true) (wy : (Lit.int .i64 y).wf = true) :
    Calls Try.prog 12 #[.slice a m c, .agg #[.int .i64 n, .int .i64 d], .int .i64 x, .int .i64 y] w fun e w' => ∃ v0 v1, e = .returned (.tuple #[v0, v1]) ∧ w'.ownsRow w.heap.size 38 2 v0 ((caL M m n d x y).map cV).length (vrow ((caL M m n d x y).map cV)) ∧ w'.ownsRow w.heap.size 3 1 v1 ((caL M m n d x y).map cI).length (irow ((caL M m n d x y).map cI)) ∧ ApR v0 v1 ∧ Below w.heap.size w w' := implPeersCarried_w a m c M n d x y w hm hs
end Go.Proofs.Ytkeijldfblgeaaa
namespace Go.Proofs.Ytkeijldfblgeaaa
open Go.RowKit
set_option linter.unusedVariables false
def zC : CT := (0, 0, 0)
def gC (C : List CT) (k : Nat) : CT := C.getD k zC
def apB (c : CT) (lo hi : Int) : Bool := decide (0 < apartI c.2.1 c.2.2 lo hi)
def stp (lo hi : Int) (p : PT) (c : CT) : PT := if c.1 = p.1 then (p.1, p.2.1, p.2.2.1, p.2.2.2.1, apB c lo hi) else p
def mkN (C : List CT) (lo hi : Int) (k : Nat) (p : PT) : PT := (C.take k).foldl (stp lo hi) p
def mkO (C : List CT) (lo hi : Int) (p : PT) : PT := mkN C lo hi C.length p
theorem stp_id (lo hi : Int) (p : PT) (c : CT) : (stp lo hi p c).1 = p.1 := by unfold stp; split <;> rfl
theorem fold_id (lo hi : Int) : ∀ (C : List CT) (p : PT), (C.foldl (stp lo hi) p).1 = p.1
  | [], _ => rfl
  | c :: C, p => by rw [List.foldl_cons, fold_id lo hi C, stp_id]
theorem mkN_id (C : List CT) (lo hi : Int) (k : Nat) (p : PT) : (mkN C lo hi k p).1 = p.1 := fold_id lo hi _ p
theorem take_gC {C : List CT} {k : Nat} (hk : k < C.length) : C.take (k + 1) = C.take k ++ [gC C k] := by
  rw [List.take_add_one, gC, List.getD_eq_getElem?_getD, List.getElem?_eq_getElem hk]
  rfl
theorem mkN_succ {C : List CT} {lo hi : Int} {k : Nat} (hk : k < C.length) (p : PT) : mkN C lo hi (k + 1) p = stp lo hi (mkN C lo hi k p) (gC C k) := by
  rw [mkN, take_gC hk, List.foldl_append]
  rfl
theorem mkN_yes {C : List CT} {lo hi : Int} {k : Nat} (hk : k < C.length) {p : PT} (h : (gC C k).1 = p.1) : mkN C lo hi (k + 1) p = (p.1, (mkN C lo hi k p).2.1, (mkN C lo hi k p).2.2.1, (mkN C lo hi k p).2.2.2.1, apB (gC C k) lo hi) := by
  rw [mkN_succ hk, stp, if_pos (by rw [mkN_id]; exact h), mkN_id]
theorem mkN_no {C : List CT} {lo hi : Int} {k : Nat} (hk : k < C.length) {p : PT} (h : (gC C k).1 ≠ p.1) : mkN C lo hi (k + 1) p = mkN C lo hi k p := by
  rw [mkN_succ hk, stp, if_neg (by rw [mkN_id]; exact h)]
def mrP (M : Nat → PT) (m : Nat) (lo hi : Int) : Bool := oks M m && okI lo hi
def mrL (M : Nat → PT) (m : Nat) (n d x y lo hi : Int) : List PT := if mrP M m lo hi = true then (lst M m).map (mkO (caL M m n d x y) lo hi) else []
theorem mrL_t {M : Nat → PT} {m : Nat} {n d x y lo hi : Int} (h1 : oks M m = true) (h2 : okI lo hi = true) : mrL M m n d x y lo hi = (lst M m).map (mkO (caL M m n d x y) lo hi) := if_pos (by rw [mrP, h1, h2]; rfl)
theorem mrL_1 {M : Nat → PT} {m : Nat} {n d x y lo hi : Int} (h1 : oks M m = false) : mrL M m n d x y lo hi = [] := if_neg (by rw [mrP, h1]; simp)
theorem mrL_2 {M : Nat → PT} {m : Nat} {n d x y lo hi : Int} (h1 : okI lo hi = false) : mrL M m n d x y lo hi = [] := if_neg (by rw [mrP, h1]; simp)
theorem PeersMark_len (M : Nat → PT) (m : Nat) (n d x y lo hi : Int) : (mrL M m n d x y lo hi).length ≤ 9 := by
  unfold mrL
  split
  · next h =>
    unfold mrP at h
    simp only [Bool.and_eq_true] at h
    have := oks_le h.1
    rw [List.length_map, lst_len]
    omega
  · simp
theorem caK_mem {M : Nat → PT} {n d x : Int} {Fr : List Int} : ∀ {k : Nat} {c : CT}, c ∈ caK M n d x Fr k → ∃ j, j < k ∧ crA (M (gI Fr j).toNat) n d x = 0 ∧ c = crE (M (gI Fr j).toNat) n d x
  | 0, c, h => by simp [caK] at h
  | k + 1, c, h => by
    simp only [caK] at h
    split at h
    · next hc =>
      rw [List.mem_append] at h
      rcases h with h | h
      · obtain ⟨j, h1, h2⟩ := caK_mem h
        exact ⟨j, by omega, h2⟩
      · simp at h
        exact ⟨k, by omega, hc, h⟩
    · obtain ⟨j, h1, h2⟩ := caK_mem h
      exact ⟨j, by omega, h2⟩
theorem caL_at {M : Nat → PT} {m : Nat} {n d x y : Int} {k : Nat} (hk : k < (caL M m n d x y).length) : okI (gC (caL M m n d x y) k).2.1 (gC (caL M m n d x y) k).2.2 = true ∧ ∃ P, P < m ∧ (M P).1 = (gC (caL M m n d x y) k).1 := by
  have hm : gC (caL M m n d x y) k ∈ caL M m n d x y := by
    rw [gC, List.getD_eq_getElem?_getD, List.getElem?_eq_getElem hk]
    exact List.getElem_mem hk
  generalize gC (caL M m n d x y) k = c at *
  obtain ⟨j, hj, h0, rfl⟩ := caK_mem hm
  obtain ⟨P, hP, hPm⟩ := frL_place hj
  rw [hP, Int.toNat_natCast] at h0 ⊢
  exact ⟨(cr_ok h0).2.2, P, hPm, rfl⟩
theorem meet_apB {c : CT} {lo hi : Int} (h1 : okI c.2.1 c.2.2 = true) (h2 : okI lo hi = true) : (!(meetB c.2.1 c.2.2 lo hi)) = apB c lo hi := by
  obtain ⟨c0, cl, ch⟩ := c
  have hb : okII cl ch lo hi = true := by simp [okII, h2]; exact h1
  have ⟨a1, a2, a3⟩ := okI_t (show okI cl ch = true from h1)
  have ⟨b1, b2, b3⟩ := okI_t h2
  show (!(meetB cl ch lo hi)) = decide (0 < apartI cl ch lo hi)
  simp only [meetB, hb, Bool.true_and]
  rw [apartI_t hb]
  have q1 : -1000000000000 ≤ imx cl lo ∧ imn ch hi ≤ 1000000000000 := by unfold imx imn; split <;> split <;> omega
  unfold okI
  by_cases h : imx cl lo ≤ imn ch hi
  · have e : ¬ 0 < imx 0 (imx cl lo - imn ch hi) := by
      generalize imx cl lo = u at *
      generalize imn ch hi = v at *
      unfold imx; split <;> omega
    simp [h, q1, e]
  · have e : 0 < imx 0 (imx cl lo - imn ch hi) := by
      generalize imx cl lo = u at *
      generalize imn ch hi = v at *
      unfold imx; split <;> omega
    simp [h, e]
theorem FLP.map {F : Int → Option PT} {L : List PT} (h : FLP F L) (g : PT → PT) (hg : ∀ p, (g p).1 = p.1) : FLP (fun y => (F y).map g) (L.map g) := by
  refine ⟨?_, fun x q => ?_⟩
  · rw [List.pairwise_map]
    exact List.Pairwise.imp (fun {a b} hab => by rw [hg, hg]; exact hab) h.1
  · show (F x).map g = some q ↔ _
    rw [List.mem_map]
    constructor
    · intro hx
      rw [Option.map_eq_some_iff] at hx
      obtain ⟨p, hp, rfl⟩ := hx
      have := (h.2 x p).1 hp
      exact ⟨⟨p, this.1, rfl⟩, by rw [hg]; exact this.2⟩
    · rintro ⟨⟨p, hp, rfl⟩, he⟩
      rw [hg] at he
      rw [(h.2 x p).2 ⟨hp, he⟩]
      rfl
theorem mkF_step {F : Int → Option PT} {L : List PT} (hF : FLP F L) {C : List CT} {lo hi : Int} {k : Nat} (hk : k < C.length) {p : PT} (hp : F (gC C k).1 = some p) (y : Int) :
    (F y).map (mkN C lo hi (k + 1)) = if y = (gC C k).1 then some ((gC C k).1, (mkN C lo hi k p).2.1, (mkN C lo hi k p).2.2.1, (mkN C lo hi k p).2.2.2.1, apB (gC C k) lo hi) else (F y).map (mkN C lo hi k) := by
  have hp1 : p.1 = (gC C k).1 := ((hF.2 _ p).1 hp).2
  by_cases e : y = (gC C k).1
  · rw [if_pos e, e, hp]
    show some (mkN C lo hi (k + 1) p) = _
    rw [mkN_yes hk hp1.symm, hp1]
  · rw [if_neg e]
    cases hy : F y with
    | none => rfl
    | some q =>
      show some (mkN C lo hi (k + 1) q) = some (mkN C lo hi k q)
      rw [mkN_no hk]
      intro e2
      have := ((hF.2 y q).1 hy).2
      exact e (this.symm.trans e2.symm)
theorem gV_map (C : List CT) (k : Nat) : gV (C.map cV) k = cV (gC C k) := by
  rw [gV, gC, List.getD_eq_getElem?_getD, List.getD_eq_getElem?_getD, List.getElem?_map]
  cases C[k]? <;> rfl
theorem gI_map (C : List CT) (k : Nat) : gI (C.map cI) k = cI (gC C k) := by
  rw [gI, gC, List.getD_eq_getElem?_getD, List.getD_eq_getElem?_getD, List.getElem?_map]
  cases C[k]? <;> rfl
/- The rows of bounds and of Ids that are read. -/
def Two (w : World) (base : Nat) (C : List CT) (v0 v1 : Value) : Prop := w.ownsRow base 38 2 v0 (C.map cV).length (vrow (C.map cV)) ∧ w.ownsRow base 3 1 v1 (C.map cI).length (irow (C.map cI))
theorem Two.below {w w' : World} {base : Nat} {C : List CT} {v0 v1 : Value} (h : Two w base C v0 v1) (hb : Below w.heap.size w w') : Two w' base C v0 v1 := ⟨own_belK' h.1 hb, own_belK' h.2 hb⟩
theorem Two.drew {w : World} {base : Nat} {C : List CT} {v0 v1 : Value} (h : Two w base C v0 v1) : Two w.drew base C v0 v1 := h
theorem Two.lts {w : World} {base : Nat} {C : List CT} {v0 v1 : Value} (h : Two w base C v0 v1) : (∀ g, v0.ownBlock = some g → base ≤ g ∧ g < w.heap.size) ∧ (∀ g, v1.ownBlock = some g → base ≤ g ∧ g < w.heap.size) := ⟨fun g hg => World.ownsRow.lt h.1 g hg, fun g hg => World.ownsRow.lt h.2 g hg⟩
theorem Two.kept {w w' : World} {base : Nat} {o : Option Nat} {C : List CT} {v0 v1 : Value} (h : Two w base C v0 v1) (hg : w.grownBy w' o) (h0 : v0.ownBlock = none ∨ v0.ownBlock ≠ o) (h1 : v1.ownBlock = none ∨ v1.ownBlock ≠ o) : Two w' base C v0 v1 := ⟨World.ownsRow.kept h.1 hg h0, World.ownsRow.kept h.2 hg h1⟩
theorem Two.but {w w' : World} {base j : Nat} {C : List CT} {v0 v1 : Value} (h : Two w base C v0 v1) (hb : But j w w') (h0 : ∀ g, v0.ownBlock = some g → g ≠ j) (h1 : ∀ g, v1.ownBlock = some g → g ≠ j) : Two w' base C v0 v1 := h.kept hb.grK (ne_blk h0) (ne_blk h1)
theorem Two.at {w : World} {base : Nat} {C : List CT} {v0 v1 : Value} (h : Two w base C v0 v1) {k : Nat} (hk : k < C.length) : ∃ a c a' c', v0 = .slice (some ⟨a, 0, none⟩) C.length c ∧ v1 = .slice (some ⟨a', 0, none⟩) C.length c' ∧ a < w.heap.size ∧ a' < w.heap.size ∧ w.cell? ⟨a, k * 2, none⟩ = some (.int .i64 (gC C k).2.1) ∧ w.cell? ⟨a, k * 2 + 1, none⟩ = some (.int .i64 (gC C k).2.2) ∧ w.cell? ⟨a', k, none⟩ = some (.int .i64 (gC C k).1) := by
  obtain ⟨h1, h2⟩ := h
  rcases h1.2 with ⟨_, h0⟩ | ⟨g, cap, cur, rfl, _⟩
  · rw [List.length_map] at h0; omega
  rcases h2.2 with ⟨_, h0⟩ | ⟨g', cap', cur', rfl, _⟩
  · rw [List.length_map] at h0; omega
  have e1 := World.ownsRow.cellAt h1 (k * 2) (by rw [List.length_map]; omega)
  have e2 := World.ownsRow.cellAt h1 (k * 2 + 1) (by rw [List.length_map]; omega)
  have e3 := World.ownsRow.cellAt h2 k (by rw [List.length_map]; omega)
  refine ⟨g, cap, g', cap', by rw [List.length_map], by rw [List.length_map], (World.ownsRow.lt h1 g rfl).2, (World.ownsRow.lt h2 g' rfl).2, ?_, ?_, ?_⟩
  · rw [e1]
    have : (vrow (C.map cV))[k * 2]? = some (MFIval (gV (C.map cV)) (k * 2 + 0)) := by rw [vrow, List.getElem?_map, List.getElem?_range (by rw [List.length_map]; omega)]; rfl
    rw [this, MFIval_at _ _ 0 (by decide), gV_map]
    rfl
  · rw [e2]
    have : (vrow (C.map cV))[k * 2 + 1]? = some (MFIval (gV (C.map cV)) (k * 2 + 1)) := by rw [vrow, List.getElem?_map, List.getElem?_range (by rw [List.length_map]; omega)]; rfl
    rw [this, MFIval_at _ _ 1 (by decide), gV_map]
    rfl
  · rw [e3]
    have : (irow (C.map cI))[k]? = some (MFInt (gI (C.map cI)) k) := by rw [irow, List.getElem?_map, List.getElem?_range (by rw [List.length_map]; omega)]; rfl
    rw [this, MFInt, gI_map]
    rfl
end Go.Proofs.Ytkeijldfblgeaaa
namespace Go.Proofs.Ytkeijldfblgeaaa
open Go.RowKit
set_option linter.unusedVariables false
def ISt (w : World) (lo hi : Int) (bm j2 nn : Nat) (F : Int → Option PT) (C : List CT) (v0 v1 : Value) (wr : World) : Prop := Bx2 wr (w.heap.size + 1) (.int .i64 lo) (.int .i64 hi) ∧ Two wr j2 C v0 v1 ∧ MapP wr bm nn F ∧ w.heap.size + 1 < bm ∧ bm < j2 ∧ Below w.heap.size w wr
theorem ISt.below {w : World} {lo hi : Int} {bm j2 nn : Nat} {F : Int → Option PT} {C : List CT} {v0 v1 : Value} {wr wr' : World} (h : ISt w lo hi bm j2 nn F C v0 v1 wr) (hb : Below wr.heap.size wr wr') : ISt w lo hi bm j2 nn F C v0 v1 wr' := by
  obtain ⟨h1, h2, h3, h4, h5, h6⟩ := h
  exact ⟨h1.below hb, h2.below hb, h3.below hb, h4, h5, h6.trans (hb.mono h6.size)⟩
theorem ISt.drew {w : World} {lo hi : Int} {bm j2 nn : Nat} {F : Int → Option PT} {C : List CT} {v0 v1 : Value} {wr : World} (h : ISt w lo hi bm j2 nn F C v0 v1 wr) : ISt w lo hi bm j2 nn F C v0 v1 wr.drew := by
  obtain ⟨h1, h2, h3, h4, h5, h6⟩ := h
  exact ⟨h1, h2, h3, h4, h5, Below.drew h6⟩
theorem ISt.lts {w : World} {lo hi : Int} {bm j2 nn : Nat} {F : Int → Option PT} {C : List CT} {v0 v1 : Value} {wr : World} (h : ISt w lo hi bm j2 nn F C v0 v1 wr) : w.heap.size + 1 < wr.heap.size ∧ bm < wr.heap.size ∧ (∀ g, v0.ownBlock = some g → g < wr.heap.size) ∧ (∀ g, v1.ownBlock = some g → g < wr.heap.size) := ⟨h.1.1, h.2.2.1.lt, fun g hg => (h.2.1.lts.1 g hg).2, fun g hg => (h.2.1.lts.2 g hg).2⟩
theorem ISt.but {w : World} {lo hi : Int} {bm j2 nn j : Nat} {F : Int → Option PT} {C : List CT} {v0 v1 : Value} {wr wr' : World} (h : ISt w lo hi bm j2 nn F C v0 v1 wr) (hb : But j wr wr') (hj : w.heap.size + 1 < j ∧ bm < j ∧ (∀ g, v0.ownBlock = some g → g < j) ∧ (∀ g, v1.ownBlock = some g → g < j)) : ISt w lo hi bm j2 nn F C v0 v1 wr' := by
  obtain ⟨h1, h2, h3, h4, h5, h6⟩ := h
  exact ⟨h1.but hb (by omega), h2.but hb (fun g hg => by have := hj.2.2.1 g hg; omega) (fun g hg => by have := hj.2.2.2 g hg; omega), h3.but hb (by omega), h4, h5, h6.trans (hb.below (by omega) h6.size)⟩
theorem ISt.mark {w : World} {lo hi : Int} {bm j2 nn nn' : Nat} {F F' : Int → Option PT} {C : List CT} {v0 v1 : Value} {wr wr' : World} (h : ISt w lo hi bm j2 nn F C v0 v1 wr) (hg : wr.grownBy wr' (some bm)) (MP : MapP wr' bm nn' F') : ISt w lo hi bm j2 nn' F' C v0 v1 wr' := by
  have hl := h.2.1.lts
  obtain ⟨h1, h2, h3, h4, h5, h6⟩ := h
  have hb := But.ofGrownK hg
  exact ⟨h1.but hb (by omega), h2.but hb (fun g hg => by have := (hl.1 g hg).1; omega) (fun g hg => by have := (hl.2 g hg).1; omega), MP, h4, h5, h6.trans (hb.below (by omega) h6.size)⟩
theorem wf07 {x : Int} (h : nodB x = true) : (Lit.int .i64 x).wf = true := by
  have := nodB_t h
  simp only [Lit.wf, Bool.and_eq_true, decide_eq_true_eq]
  exact ⟨by show (-9223372036854775808 : Int) ≤ x; omega, by show x ≤ (9223372036854775807 : Int); omega⟩
end Go.Proofs.Ytkeijldfblgeaaa
namespace Go.Proofs.Ytkeijldfblgeaaa
open Go.RowKit
set_option linter.unusedVariables false
def sN (C : List CT) (lo hi : Int) (k : Nat) (p : PT) : Bool := (mkN C lo hi k p).2.2.2.2
theorem fold_eq (lo hi : Int) : ∀ (C : List CT) (p : PT), C.foldl (stp lo hi) p = (p.1, p.2.1, p.2.2.1, p.2.2.2.1, (C.foldl (stp lo hi) p).2.2.2.2)
  | [], _ => rfl
  | c :: C, p => by
    rw [List.foldl_cons]
    have h := fold_eq lo hi C (stp lo hi p c)
    have e : (stp lo hi p c).1 = p.1 ∧ (stp lo hi p c).2.1 = p.2.1 ∧ (stp lo hi p c).2.2.1 = p.2.2.1 ∧ (stp lo hi p c).2.2.2.1 = p.2.2.2.1 := by unfold stp; split <;> exact ⟨rfl, rfl, rfl, rfl⟩
    rw [e.1, e.2.1, e.2.2.1, e.2.2.2] at h
    exact h
theorem mkN_eq (C : List CT) (lo hi : Int) (k : Nat) (p : PT) : mkN C lo hi k p = (p.1, p.2.1, p.2.2.1, p.2.2.2.1, sN C lo hi k p) := fold_eq lo hi _ p
theorem sN_yes {C : List CT} {lo hi : Int} {k : Nat} (hk : k < C.length) {p : PT} (h : (gC C k).1 = p.1) : sN C lo hi (k + 1) p = apB (gC C k) lo hi := by rw [sN, mkN_yes hk h]
theorem sN_no {C : List CT} {lo hi : Int} {k : Nat} (hk : k < C.length) {p : PT} (h : (gC C k).1 ≠ p.1) : sN C lo hi (k + 1) p = sN C lo hi k p := by rw [sN, mkN_no hk h]; rfl
def SSt (w : World) (lo hi : Int) (j2 : Nat) (C : List CT) (v0 v1 : Value) (K : List PT) (vo : Value) (wr : World) : Prop := Bx2 wr (w.heap.size + 1) (.int .i64 lo) (.int .i64 hi) ∧ Two wr j2 C v0 v1 ∧ wr.ownsRow (w.heap.size + 2) 51 5 vo K.length (prow K) ∧ ApR v0 vo ∧ ApR v1 vo ∧ w.heap.size + 1 < j2 ∧ Below w.heap.size w wr
theorem SSt.below {w : World} {lo hi : Int} {j2 : Nat} {C : List CT} {v0 v1 : Value} {K : List PT} {vo : Value} {wr wr' : World} (h : SSt w lo hi j2 C v0 v1 K vo wr) (hb : Below wr.heap.size wr wr') : SSt w lo hi j2 C v0 v1 K vo wr' := by
  obtain ⟨h1, h2, h3, h4, h5, h6, h7⟩ := h
  exact ⟨h1.below hb, h2.below hb, own_belK' h3 hb, h4, h5, h6, h7.trans (hb.mono h7.size)⟩
theorem SSt.drew {w : World} {lo hi : Int} {j2 : Nat} {C : List CT} {v0 v1 : Value} {K : List PT} {vo : Value} {wr : World} (h : SSt w lo hi j2 C v0 v1 K vo wr) : SSt w lo hi j2 C v0 v1 K vo wr.drew := by
  obtain ⟨h1, h2, h3, h4, h5, h6, h7⟩ := h
  exact ⟨h1, h2, h3, h4, h5, h6, Below.drew h7⟩
theorem SSt.lts {w : World} {lo hi : Int} {j2 : Nat} {C : List CT} {v0 v1 : Value} {K : List PT} {vo : Value} {wr : World} (h : SSt w lo hi j2 C v0 v1 K vo wr) : w.heap.size + 1 < wr.heap.size ∧ (∀ g, v0.ownBlock = some g → g < wr.heap.size) ∧ (∀ g, v1.ownBlock = some g → g < wr.heap.size) ∧ (∀ g, vo.ownBlock = some g → g < wr.heap.size) := ⟨h.1.1, fun g hg => (h.2.1.lts.1 g hg).2, fun g hg => (h.2.1.lts.2 g hg).2, fun g hg => (World.ownsRow.lt h.2.2.1 g hg).2⟩
theorem SSt.but {w : World} {lo hi : Int} {j2 j : Nat} {C : List CT} {v0 v1 : Value} {K : List PT} {vo : Value} {wr wr' : World} (h : SSt w lo hi j2 C v0 v1 K vo wr) (hb : But j wr wr') (hj : w.heap.size + 1 < j ∧ (∀ g, v0.ownBlock = some g → g < j) ∧ (∀ g, v1.ownBlock = some g → g < j) ∧ (∀ g, vo.ownBlock = some g → g < j)) : SSt w lo hi j2 C v0 v1 K vo wr' := by
  obtain ⟨h1, h2, h3, h4, h5, h6, h7⟩ := h
  exact ⟨h1.but hb (by omega), h2.but hb (fun g hg => by have := hj.2.1 g hg; omega) (fun g hg => by have := hj.2.2.1 g hg; omega), kept_ne h3 hb hj.2.2.2, h4, h5, h6, h7.trans (hb.below (by omega) h7.size)⟩
theorem SSt.add {w : World} {lo hi : Int} {j2 : Nat} {C : List CT} {v0 v1 : Value} {K K' : List PT} {vo v' : Value} {wr w9 : World} (h : SSt w lo hi j2 C v0 v1 K vo wr) (O9 : w9.ownsRow (w.heap.size + 2) 51 5 v' K'.length (prow K')) (hg : wr.grownBy w9 vo.ownBlock) (hn : ∀ g, v'.ownBlock = some g → vo.ownBlock = some g ∨ wr.heap.size ≤ g) : SSt w lo hi j2 C v0 v1 K' v' w9 := by
  have hl := h.lts
  obtain ⟨h1, h2, h3, h4, h5, h6, h7⟩ := h
  have hb1 : some (w.heap.size + 1) ≠ vo.ownBlock := fun e => by have := (World.ownsRow.lt h3 _ e.symm).1; omega
  exact ⟨h1.kept hg hb1, h2.kept hg h4.ne' h5.ne', O9, h4.grow hn hl.2.1, h5.grow hn hl.2.2.1, h6, h7.trans ((grown_belowK h3 hg (by omega)).mono (by omega))⟩
end Go.Proofs.Ytkeijldfblgeaaa
namespace Go.Proofs.Ytkeijldfblgeaaa
open Go.RowKit
set_option linter.unusedVariables false
def two (n d : Int) (f : Nat → Int × Int) (j i : Nat) : Bool := mcB n d ((f i).1 - (f j).1) ((f i).2 - (f j).2)
def mkB (n d : Int) (f : Nat → Int × Int) (m : Nat) : Bool := okD n d && decide (1 ≤ m ∧ m ≤ 201) && decide (∀ i, i < m → (okT (f i).1 && okT (f i).2) = true)
def prB (n d : Int) (f : Nat → Int × Int) (m back : Nat) : Bool := decide (∀ i, i < m → ∀ j, j < i → i ≤ j + back → two n d f j i = true)
def mrB (n d : Int) (f : Nat → Int × Int) (m back : Nat) : Bool := mkB n d f m && prB n d f m back
section
variable {n d : Int} {f : Nat → Int × Int} {m back : Nat}
theorem mkB_t (h : mkB n d f m = true) : okD n d = true ∧ 1 ≤ m ∧ m ≤ 201 ∧ ∀ i, i < m → okT (f i).1 = true ∧ okT (f i).2 = true := by
  simp only [mkB, Bool.and_eq_true, decide_eq_true_eq] at h
  exact ⟨h.1.1, h.1.2.1, h.1.2.2, h.2⟩
theorem mkB_of (h1 : okD n d = true) (h2 : 1 ≤ m) (h3 : m ≤ 201) (h4 : ∀ i, i < m → okT (f i).1 = true ∧ okT (f i).2 = true) : mkB n d f m = true := by
  simp only [mkB, Bool.and_eq_true, decide_eq_true_eq]
  exact ⟨⟨h1, h2, h3⟩, h4⟩
theorem mkB_d (h : okD n d = false) : mkB n d f m = false := by simp [mkB, h]
theorem mkB_n (h : ¬ (1 ≤ m ∧ m ≤ 201)) : mkB n d f m = false := by simp [mkB, h]
theorem bool_f {b : Bool} (h : ¬ b = true) : b = false := by cases b; rfl; exact absurd rfl h
theorem mkB_i {i : Nat} (hi : i < m) (h : (okT (f i).1 && okT (f i).2) = false) : mkB n d f m = false := by
  refine bool_f fun hk => ?_
  have := (mkB_t hk).2.2.2 i hi
  rw [this.1, this.2] at h
  exact absurd h (by simp)
theorem prB_t (h : prB n d f m back = true) : ∀ i, i < m → ∀ j, j < i → i ≤ j + back → two n d f j i = true := of_decide_eq_true h
theorem prB_of (h : ∀ i, i < m → ∀ j, j < i → i ≤ j + back → two n d f j i = true) : prB n d f m back = true := decide_eq_true h
theorem prB_f {i j : Nat} (hi : i < m) (hj : j < i) (hb : i ≤ j + back) (h : two n d f j i = false) : prB n d f m back = false := by
  refine bool_f fun hk => ?_
  rw [prB_t hk i hi j hj hb] at h
  exact absurd h (by simp)
theorem mrB_k (h : mkB n d f m = false) : mrB n d f m back = false := by simp [mrB, h]
theorem mrB_p (h : prB n d f m back = false) : mrB n d f m back = false := by simp [mrB, h]
theorem mrB_of (h : mkB n d f m = true) (h2 : prB n d f m back = true) : mrB n d f m back = true := by simp [mrB, h, h2]
theorem mrB_t (h : mrB n d f m back = true) : mkB n d f m = true ∧ prB n d f m back = true := by simpa [mrB] using h
theorem mcB_y {t c : Int} (h : mcB n d t c = true) : okD n d = true ∧ okT t = true ∧ okT c = true ∧ t * (d - n) ≤ c * d ∧ c * d ≤ t * (d + n) := by
  simp only [mcB, Bool.and_eq_true, decide_eq_true_eq] at h
  exact ⟨h.1.1.1.1, h.1.1.1.2, h.1.1.2, h.1.2, h.2⟩
theorem mcB_of {t c : Int} (h1 : okD n d = true) (h2 : okT t = true) (h3 : okT c = true) (h4 : t * (d - n) ≤ c * d) (h5 : c * d ≤ t * (d + n)) : mcB n d t c = true := by
  simp only [mcB, Bool.and_eq_true, decide_eq_true_eq]
  exact ⟨⟨⟨⟨h1, h2⟩, h3⟩, h4⟩, h5⟩
theorem mcB_add {t c t' c' : Int} (h : mcB n d t c = true) (h' : mcB n d t' c' = true) (ht : okT (t + t') = true) (hc : okT (c + c') = true) : mcB n d (t + t') (c + c') = true := by
  have ⟨a1, a2, a3, a4, a5⟩ := mcB_y h
  have ⟨b1, b2, b3, b4, b5⟩ := mcB_y h'
  exact mcB_of a1 ht hc (by rw [Int.add_mul, Int.add_mul]; omega) (by rw [Int.add_mul, Int.add_mul]; omega)
theorem two_step {i j k : Nat} (hij : two n d f i j = true) (hjk : two n d f j k = true) (h1 : okT (f i).1 = true) (h2 : okT (f i).2 = true) (h3 : okT (f k).1 = true) (h4 : okT (f k).2 = true) : two n d f i k = true := by
  have ⟨a1, a2, a3, _, _⟩ := mcB_y hij
  have ⟨b1, b2, b3, _, _⟩ := mcB_y hjk
  have A2 := okT_t a2
  have A3 := okT_t a3
  have B2 := okT_t b2
  have B3 := okT_t b3
  have H1 := okT_t h1
  have H2 := okT_t h2
  have H3 := okT_t h3
  have H4 := okT_t h4
  have e1 : (f k).1 - (f i).1 = ((f j).1 - (f i).1) + ((f k).1 - (f j).1) := by omega
  have e2 : (f k).2 - (f i).2 = ((f j).2 - (f i).2) + ((f k).2 - (f j).2) := by omega
  unfold two
  rw [e1, e2]
  exact mcB_add hij hjk (decide_eq_true ⟨by omega, by omega⟩) (decide_eq_true ⟨by omega, by omega⟩)
theorem two_all (h : mrB n d f m 1 = true) : ∀ k i, i < i + (k + 1) → i + (k + 1) < m → two n d f i (i + (k + 1)) = true
  | 0, i, _, hm => prB_t (mrB_t h).2 (i + 1) hm i (by omega) (by omega)
  | k + 1, i, hi, hm => by
    have ⟨_, _, _, ho⟩ := mkB_t (mrB_t h).1
    have h1 := two_all h k i (by omega) (by omega)
    have h2 := prB_t (mrB_t h).2 (i + (k + 1 + 1)) hm (i + (k + 1)) (by omega) (by omega)
    exact two_step h1 h2 (ho i (by omega)).1 (ho i (by omega)).2 (ho _ hm).1 (ho _ hm).2
theorem two_lt (h : mrB n d f m 1 = true) {i j : Nat} (hij : i < j) (hj : j < m) : two n d f i j = true := by
  have := two_all h (j - i - 1) i (by omega) (by omega)
  rw [show i + (j - i - 1 + 1) = j by omega] at this
  exact this
theorem mrB_all (h1 : 1 ≤ back) : mrB n d f m back = mrB n d f m 1 := by
  rw [Bool.eq_iff_iff]
  constructor
  · intro h
    exact mrB_of (mrB_t h).1 (prB_of fun i hi j hj hb => prB_t (mrB_t h).2 i hi j hj (by omega))
  · intro h
    exact mrB_of (mrB_t h).1 (prB_of fun i hi j hj hb => two_lt h hj hi)
theorem up_time (h : mrB n d f m 1 = true) {i j : Nat} (hij : i ≤ j) (hj : j < m) : (f i).1 ≤ (f j).1 ∧ (f i).2 ≤ (f j).2 := by
  by_cases e : i = j
  · subst e; exact ⟨Int.le_refl _, Int.le_refl _⟩
  · have ⟨_, a2, a3, _, _⟩ := mcB_y (two_lt h (show i < j by omega) hj)
    have A2 := okT_t a2
    have A3 := okT_t a3
    exact ⟨by omega, by omega⟩
end
def lastLe (g : Nat → Int) (x : Int) : Nat → Nat
  | 0 => 0
  | k + 1 => if g k ≤ x then k else lastLe g x k
section
variable {g : Nat → Int} {x : Int}
theorem lastLe_y {k : Nat} (h : g k ≤ x) : lastLe g x (k + 1) = k := by simp [lastLe, h]
theorem lastLe_n {k : Nat} (h : ¬ g k ≤ x) : lastLe g x (k + 1) = lastLe g x k := by simp [lastLe, h]
theorem lastLe_lt : ∀ {m : Nat}, 1 ≤ m → lastLe g x m < m
  | 0, h => absurd h (by omega)
  | m + 1, _ => by
    by_cases h : g m ≤ x
    · rw [lastLe_y h]; omega
    · rw [lastLe_n h]
      by_cases hm : 1 ≤ m
      · have := lastLe_lt (m := m) hm; omega
      · obtain rfl : m = 0 := by omega
        simp [lastLe]
theorem lastLe_le : ∀ {m : Nat}, 1 ≤ m → g 0 ≤ x → g (lastLe g x m) ≤ x
  | 0, h, _ => absurd h (by omega)
  | m + 1, _, h0 => by
    by_cases h : g m ≤ x
    · rw [lastLe_y h]; exact h
    · rw [lastLe_n h]
      by_cases hm : 1 ≤ m
      · exact lastLe_le hm h0
      · obtain rfl : m = 0 := by omega
        exact h0
theorem lastLe_gt : ∀ {m i : Nat}, lastLe g x m < i → i < m → x < g i
  | 0, i, _, h => absurd h (by omega)
  | m + 1, i, hl, hi => by
    by_cases h : g m ≤ x
    · rw [lastLe_y h] at hl; omega
    · rw [lastLe_n h] at hl
      by_cases e : i = m
      · subst e; omega
      · exact lastLe_gt hl (by omega)
theorem lastLe_rest {k : Nat} : ∀ {m : Nat}, k ≤ m → (∀ i, k ≤ i → i < m → x < g i) → lastLe g x m = lastLe g x k
  | 0, h, _ => by have : k = 0 := by omega
                  subst this; rfl
  | m + 1, h, hg => by
    by_cases e : k = m + 1
    · subst e; rfl
    · have h1 := hg m (by omega) (by omega)
      rw [lastLe_n (by omega)]
      exact lastLe_rest (by omega) fun i a b => hg i a (by omega)
end
def inB (g : Nat → Int) (x : Int) (m : Nat) : Bool := decide (g 0 ≤ x ∧ x ≤ g (m - 1))
def whLo (Lf Mf : Int → Int) (g h : Nat → Int) (x : Int) (m : Nat) : Int :=
  if lastLe g x m + 1 = m then h (lastLe g x m) + Lf (x - g (lastLe g x m)) else imx (h (lastLe g x m) + Lf (x - g (lastLe g x m))) (h (lastLe g x m + 1) - Mf (g (lastLe g x m + 1) - x))
def whHi (Lf Mf : Int → Int) (g h : Nat → Int) (x : Int) (m : Nat) : Int :=
  if lastLe g x m + 1 = m then h (lastLe g x m) + Mf (x - g (lastLe g x m)) else imn (h (lastLe g x m) + Mf (x - g (lastLe g x m))) (h (lastLe g x m + 1) - Lf (g (lastLe g x m + 1) - x))
def whB (B2 : Int → Bool) (Lf Mf : Int → Int) (g h : Nat → Int) (x : Int) (m : Nat) : Bool :=
  inB g x m && B2 (x - g (lastLe g x m)) && (decide (lastLe g x m + 1 = m) || B2 (g (lastLe g x m + 1) - x)) && decide (whLo Lf Mf g h x m ≤ whHi Lf Mf g h x m)
def t1 (f : Nat → Int × Int) (i : Nat) : Int := (f i).1
def t2 (f : Nat → Int × Int) (i : Nat) : Int := (f i).2
end Go.Proofs.Ytkeijldfblgeaaa
namespace Go.Proofs.Ytkeijldfblgeaaa
open Go.RowKit
set_option linter.unusedVariables false
theorem ct_parts {n d x : Int} (h : ctB n d x = true) : rB n d x (upI (x * (d - n)) d) = true ∧ rB n d x (dnI (x * (d + n)) d) = true := by
  simp [ctB] at h; exact h
theorem clI_in {n d x t : Int} (h : ctB n d x = true) : okT x = true ∧ okD n d = true ∧ okT (clI n d x t) = true ∧ upI (x * (d - n)) d ≤ clI n d x t ∧ clI n d x t ≤ dnI (x * (d + n)) d := by
  have ⟨h1, h2⟩ := ct_parts h
  have ⟨a1, a2, a3⟩ := rB_o h1
  have ⟨b1, b2, b3⟩ := rB_o h2
  have ⟨c1, c2⟩ := okT_t a3
  have ⟨e1, e2⟩ := okT_t b3
  have ⟨l1, l2⟩ := lc_le a1 a2
  have hm : upI (x * (d - n)) d ≤ clI n d x t ∧ clI n d x t ≤ dnI (x * (d + n)) d := by
    unfold clI imn imx; split <;> split <;> constructor <;> omega
  exact ⟨a2, a1, decide_eq_true ⟨by omega, by omega⟩, hm.1, hm.2⟩
def stepB (n d t c b v : Int) : Bool := okO n d t c && ctB n d b && okT (t + b) && okT (c + clI n d b v)
def stT (n d t c b v : Int) : Int := if stepB n d t c b v then t + b else sel (okO n d t c) t
def stC (n d t c b v : Int) : Int := if stepB n d t c b v then c + clI n d b v else sel (okO n d t c) c
set_option maxHeartbeats 2000000 in
theorem specOscStep_any (n d t c b v : Int) (w : World) :
    Calls Try.prog 25 #[.agg #[.int .i64 n, .int .i64 d, .int .i64 t, .int .i64 c], .agg #[.int .i64 b, .int .i64 v]] w fun e w' => e = .returned (.tuple #[.agg #[.int .i64 (sel (okO n d t c) n), .int .i64 (sel (okO n d t c) d), .int .i64 (stT n d t c b v), .int .i64 (stC n d t c b v)], .bool (stepB n d t c b v)]) ∧ Below w.heap.size w w' := by
  cases ho : okO n d t c
  · have hs : stepB n d t c b v = false := by simp [stepB, ho]
    have eT : stT n d t c b v = 0 := by simp [stT, hs, ho, sel]
    have eC : stC n d t c b v = 0 := by simp [stC, hs, ho, sel]
    rw [hs, eT, eC, sel_f rfl, sel_f rfl]
    go_enter Try.func25, Try.ntmps25
    go_wp2_with (first | (go_at_call 24; refine (specOscOk_any _ _ _ _ _).mono ?_; rintro e w' ⟨rfl, hb⟩; obtain ⟨hc, hf⟩ := bcell hb; (first | have hB := Below.trans (Below.trans hB (by repeat (first | exact Below.refl _ _ | refine Below.drew ?_ | refine Below.alloc ?_ (by first | (simp; done) | (simp; omega) | omega) _ | refine Below.setCell ?_ (by first | (simp; done) | (simp; omega) | omega) _ | refine Below.trans ?_ (Below.mono (by assumption) (by first | (simp; done) | (simp; omega) | omega))))) (Below.mono hb (by first | (simp; done) | (simp; omega) | omega)) | have hB := hb); obtain ⟨hC, hF⟩ := bcell hB; have hz := hb.size; (try simp at hz); (try (have hz0 : w.heap.size < w'.heap.size := by omega)); (try (have hz1 : w.heap.size + 1 < w'.heap.size := by omega)); (try (have hz2 : w.heap.size + 1 + 1 < w'.heap.size := by omega)); (try (have hz3 : w.heap.size + 1 + 1 + 1 < w'.heap.size := by omega))))
    exact bodyPost_ret (v := .tuple #[.agg #[.int .i64 0, .int .i64 0, .int .i64 0, .int .i64 0], .bool false]) (by simp (maxDischargeDepth := 6) [results, Try.results25, go_sem, *]) rfl ⟨rfl, by repeat (first | exact Below.refl _ _ | refine Below.drew ?_ | refine Below.alloc ?_ (by first | (simp; done) | (simp; omega) | omega) _ | refine Below.setCell ?_ (by first | (simp; done) | (simp; omega) | omega) _ | refine Below.trans ?_ (Below.mono (by assumption) (by first | (simp; done) | (simp; omega) | omega)))⟩
  rw [sel_t rfl, sel_t rfl]
  have ⟨o1, o2, o3⟩ := okO_t ho
  have ⟨t1, t2⟩ := okT_t o2
  have ⟨c1, c2⟩ := okT_t o3
  cases hk : ctB n d b
  · have hs : stepB n d t c b v = false := by simp [stepB, ho, hk]
    have eT : stT n d t c b v = t := by simp [stT, hs, ho, sel]
    have eC : stC n d t c b v = c := by simp [stC, hs, ho, sel]
    rw [hs, eT, eC]
    go_enter Try.func25, Try.ntmps25
    go_wp2_with (first | (go_at_call 24; refine (specOscOk_any _ _ _ _ _).mono ?_; rintro e w' ⟨rfl, hb⟩; obtain ⟨hc, hf⟩ := bcell hb; (first | have hB := Below.trans (Below.trans hB (by repeat (first | exact Below.refl _ _ | refine Below.drew ?_ | refine Below.alloc ?_ (by first | (simp; done) | (simp; omega) | omega) _ | refine Below.setCell ?_ (by first | (simp; done) | (simp; omega) | omega) _ | refine Below.trans ?_ (Below.mono (by assumption) (by first | (simp; done) | (simp; omega) | omega))))) (Below.mono hb (by first | (simp; done) | (simp; omega) | omega)) | have hB := hb); obtain ⟨hC, hF⟩ := bcell hB; have hz := hb.size; (try simp at hz); (try (have hz0 : w.heap.size < w'.heap.size := by omega)); (try (have hz1 : w.heap.size + 1 < w'.heap.size := by omega)); (try (have hz2 : w.heap.size + 1 + 1 < w'.heap.size := by omega)); (try (have hz3 : w.heap.size + 1 + 1 + 1 < w'.heap.size := by omega))) | (go_at_call 46; refine (specClamp_any _ _ _ _ _).mono ?_; rintro e w' ⟨rfl, hb⟩; obtain ⟨hc, hf⟩ := bcell hb; (first | have hB := Below.trans (Below.trans hB (by repeat (first | exact Below.refl _ _ | refine Below.drew ?_ | refine Below.alloc ?_ (by first | (simp; done) | (simp; omega) | omega) _ | refine Below.setCell ?_ (by first | (simp; done) | (simp; omega) | omega) _ | refine Below.trans ?_ (Below.mono (by assumption) (by first | (simp; done) | (simp; omega) | omega))))) (Below.mono hb (by first | (simp; done) | (simp; omega) | omega)) | have hB := hb); obtain ⟨hC, hF⟩ := bcell hB; have hz := hb.size; (try simp at hz); (try (have hz0 : w.heap.size < w'.heap.size := by omega)); (try (have hz1 : w.heap.size + 1 < w'.heap.size := by omega)); (try (have hz2 : w.heap.size + 1 + 1 < w'.heap.size := by omega)); (try (have hz3 : w.heap.size + 1 + 1 + 1 < w'.heap.size := by omega))))
    exact bodyPost_ret (v := .tuple #[.agg #[.int .i64 n, .int .i64 d, .int .i64 t, .int .i64 c], .bool false]) (by simp (maxDischargeDepth := 6) [results, Try.results25, go_sem, *]) rfl ⟨rfl, by repeat (first | exact Below.refl _ _ | refine Below.drew ?_ | refine Below.alloc ?_ (by first | (simp; done) | (simp; omega) | omega) _ | refine Below.setCell ?_ (by first | (simp; done) | (simp; omega) | omega) _ | refine Below.trans ?_ (Below.mono (by assumption) (by first | (simp; done) | (simp; omega) | omega)))⟩
  have ⟨k1, k2, k3, k4, k5⟩ := clI_in (t := v) hk
  have ⟨b1, b2⟩ := okT_t k1
  have ⟨g1, g2⟩ := okT_t k3
  have es : sel true (clI n d b v) = clI n d b v := rfl
  have EQ : stepB n d t c b v = (okT (t + b) && okT (c + clI n d b v)) := by simp [stepB, ho, hk]
  by_cases ht : 1000000000000 < t + b
  · have hs : stepB n d t c b v = false := by rw [EQ]; simp [okT]; omega
    have eT : stT n d t c b v = t := by simp [stT, hs, ho, sel]
    have eC : stC n d t c b v = c := by simp [stC, hs, ho, sel]
    rw [hs, eT, eC]
    go_enter Try.func25, Try.ntmps25
    go_wp2_with (first | (go_at_call 24; refine (specOscOk_any _ _ _ _ _).mono ?_; rintro e w' ⟨rfl, hb⟩; obtain ⟨hc, hf⟩ := bcell hb; (first | have hB := Below.trans (Below.trans hB (by repeat (first | exact Below.refl _ _ | refine Below.drew ?_ | refine Below.alloc ?_ (by first | (simp; done) | (simp; omega) | omega) _ | refine Below.setCell ?_ (by first | (simp; done) | (simp; omega) | omega) _ | refine Below.trans ?_ (Below.mono (by assumption) (by first | (simp; done) | (simp; omega) | omega))))) (Below.mono hb (by first | (simp; done) | (simp; omega) | omega)) | have hB := hb); obtain ⟨hC, hF⟩ := bcell hB; have hz := hb.size; (try simp at hz); (try (have hz0 : w.heap.size < w'.heap.size := by omega)); (try (have hz1 : w.heap.size + 1 < w'.heap.size := by omega)); (try (have hz2 : w.heap.size + 1 + 1 < w'.heap.size := by omega)); (try (have hz3 : w.heap.size + 1 + 1 + 1 < w'.heap.size := by omega))) | (go_at_call 46; refine (specClamp_any _ _ _ _ _).mono ?_; rintro e w' ⟨rfl, hb⟩; obtain ⟨hc, hf⟩ := bcell hb; (first | have hB := Below.trans (Below.trans hB (by repeat (first | exact Below.refl _ _ | refine Below.drew ?_ | refine Below.alloc ?_ (by first | (simp; done) | (simp; omega) | omega) _ | refine Below.setCell ?_ (by first | (simp; done) | (simp; omega) | omega) _ | refine Below.trans ?_ (Below.mono (by assumption) (by first | (simp; done) | (simp; omega) | omega))))) (Below.mono hb (by first | (simp; done) | (simp; omega) | omega)) | have hB := hb); obtain ⟨hC, hF⟩ := bcell hB; have hz := hb.size; (try simp at hz); (try (have hz0 : w.heap.size < w'.heap.size := by omega)); (try (have hz1 : w.heap.size + 1 < w'.heap.size := by omega)); (try (have hz2 : w.heap.size + 1 + 1 < w'.heap.size := by omega)); (try (have hz3 : w.heap.size + 1 + 1 + 1 < w'.heap.size := by omega))))
    exact bodyPost_ret (v := .tuple #[.agg #[.int .i64 n, .int .i64 d, .int .i64 t, .int .i64 c], .bool false]) (by simp (maxDischargeDepth := 6) [results, Try.results25, go_sem, *]) rfl ⟨rfl, by repeat (first | exact Below.refl _ _ | refine Below.drew ?_ | refine Below.alloc ?_ (by first | (simp; done) | (simp; omega) | omega) _ | refine Below.setCell ?_ (by first | (simp; done) | (simp; omega) | omega) _ | refine Below.trans ?_ (Below.mono (by assumption) (by first | (simp; done) | (simp; omega) | omega)))⟩
  by_cases hc' : 1000000000000 < c + clI n d b v
  · have hs : stepB n d t c b v = false := by rw [EQ]; simp [okT]; omega
    have eT : stT n d t c b v = t := by simp [stT, hs, ho, sel]
    have eC : stC n d t c b v = c := by simp [stC, hs, ho, sel]
    rw [hs, eT, eC]
    go_enter Try.func25, Try.ntmps25
    go_wp2_with (first | (go_at_call 24; refine (specOscOk_any _ _ _ _ _).mono ?_; rintro e w' ⟨rfl, hb⟩; obtain ⟨hc, hf⟩ := bcell hb; (first | have hB := Below.trans (Below.trans hB (by repeat (first | exact Below.refl _ _ | refine Below.drew ?_ | refine Below.alloc ?_ (by first | (simp; done) | (simp; omega) | omega) _ | refine Below.setCell ?_ (by first | (simp; done) | (simp; omega) | omega) _ | refine Below.trans ?_ (Below.mono (by assumption) (by first | (simp; done) | (simp; omega) | omega))))) (Below.mono hb (by first | (simp; done) | (simp; omega) | omega)) | have hB := hb); obtain ⟨hC, hF⟩ := bcell hB; have hz := hb.size; (try simp at hz); (try (have hz0 : w.heap.size < w'.heap.size := by omega)); (try (have hz1 : w.heap.size + 1 < w'.heap.size := by omega)); (try (have hz2 : w.heap.size + 1 + 1 < w'.heap.size := by omega)); (try (have hz3 : w.heap.size + 1 + 1 + 1 < w'.heap.size := by omega))) | (go_at_call 46; refine (specClamp_any _ _ _ _ _).mono ?_; rintro e w' ⟨rfl, hb⟩; obtain ⟨hc, hf⟩ := bcell hb; (first | have hB := Below.trans (Below.trans hB (by repeat (first | exact Below.refl _ _ | refine Below.drew ?_ | refine Below.alloc ?_ (by first | (simp; done) | (simp; omega) | omega) _ | refine Below.setCell ?_ (by first | (simp; done) | (simp; omega) | omega) _ | refine Below.trans ?_ (Below.mono (by assumption) (by first | (simp; done) | (simp; omega) | omega))))) (Below.mono hb (by first | (simp; done) | (simp; omega) | omega)) | have hB := hb); obtain ⟨hC, hF⟩ := bcell hB; have hz := hb.size; (try simp at hz); (try (have hz0 : w.heap.size < w'.heap.size := by omega)); (try (have hz1 : w.heap.size + 1 < w'.heap.size := by omega)); (try (have hz2 : w.heap.size + 1 + 1 < w'.heap.size := by omega)); (try (have hz3 : w.heap.size + 1 + 1 + 1 < w'.heap.size := by omega))))
    exact bodyPost_ret (v := .tuple #[.agg #[.int .i64 n, .int .i64 d, .int .i64 t, .int .i64 c], .bool false]) (by simp (maxDischargeDepth := 6) [results, Try.results25, go_sem, *]) rfl ⟨rfl, by repeat (first | exact Below.refl _ _ | refine Below.drew ?_ | refine Below.alloc ?_ (by first | (simp; done) | (simp; omega) | omega) _ | refine Below.setCell ?_ (by first | (simp; done) | (simp; omega) | omega) _ | refine Below.trans ?_ (Below.mono (by assumption) (by first | (simp; done) | (simp; omega) | omega)))⟩
  have hs : stepB n d t c b v = true := by rw [EQ]; simp [okT]; omega
  have eT : stT n d t c b v = t + b := by simp [stT, hs]
  have eC : stC n d t c b v = c + clI n d b v := by simp [stC, hs]
  rw [hs, eT, eC]
  go_enter Try.func25, Try.ntmps25
  go_wp2_with (first | (go_at_call 24; refine (specOscOk_any _ _ _ _ _).mono ?_; rintro e w' ⟨rfl, hb⟩; obtain ⟨hc, hf⟩ := bcell hb; (first | have hB := Below.trans (Below.trans hB (by repeat (first | exact Below.refl _ _ | refine Below.drew ?_ | refine Below.alloc ?_ (by first | (simp; done) | (simp; omega) | omega) _ | refine Below.setCell ?_ (by first | (simp; done) | (simp; omega) | omega) _ | refine Below.trans ?_ (Below.mono (by assumption) (by first | (simp; done) | (simp; omega) | omega))))) (Below.mono hb (by first | (simp; done) | (simp; omega) | omega)) | have hB := hb); obtain ⟨hC, hF⟩ := bcell hB; have hz := hb.size; (try simp at hz); (try (have hz0 : w.heap.size < w'.heap.size := by omega)); (try (have hz1 : w.heap.size + 1 < w'.heap.size := by omega)); (try (have hz2 : w.heap.size + 1 + 1 < w'.heap.size := by omega)); (try (have hz3 : w.heap.size + 1 + 1 + 1 < w'.heap.size := by omega))) | (go_at_call 46; refine (specClamp_any _ _ _ _ _).mono ?_; rintro e w' ⟨rfl, hb⟩; obtain ⟨hc, hf⟩ := bcell hb; (first | have hB := Below.trans (Below.trans hB (by repeat (first | exact Below.refl _ _ | refine Below.drew ?_ | refine Below.alloc ?_ (by first | (simp; done) | (simp; omega) | omega) _ | refine Below.setCell ?_ (by first | (simp; done) | (simp; omega) | omega) _ | refine Below.trans ?_ (Below.mono (by assumption) (by first | (simp; done) | (simp; omega) | omega))))) (Below.mono hb (by first | (simp; done) | (simp; omega) | omega)) | have hB := hb); obtain ⟨hC, hF⟩ := bcell hB; have hz := hb.size; (try simp at hz); (try (have hz0 : w.heap.size < w'.heap.size := by omega)); (try (have hz1 : w.heap.size + 1 < w'.heap.size := by omega)); (try (have hz2 : w.heap.size + 1 + 1 < w'.heap.size := by omega)); (try (have hz3 : w.heap.size + 1 + 1 + 1 < w'.heap.size := by omega))))
  exact bodyPost_ret (v := .tuple #[.agg #[.int .i64 n, .int .i64 d, .int .i64 (t + b), .int .i64 (c + clI n d b v)], .bool true]) (by simp (maxDischargeDepth := 6) [results, Try.results25, go_sem, *]) rfl ⟨rfl, by repeat (first | exact Below.refl _ _ | refine Below.drew ?_ | refine Below.alloc ?_ (by first | (simp; done) | (simp; omega) | omega) _ | refine Below.setCell ?_ (by first | (simp; done) | (simp; omega) | omega) _ | refine Below.trans ?_ (Below.mono (by assumption) (by first | (simp; done) | (simp; omega) | omega)))⟩
end Go.Proofs.Ytkeijldfblgeaaa
namespace Go.Proofs.Ytkeijldfblgeaaa
open Go.RowKit
set_option linter.unusedVariables false
def Prs (w : World) (b off n : Nat) (f : Nat → Int × Int) : Prop :=
  b < w.heap.size ∧ ∀ i, i < n → w.cell? ⟨b, off + i * 2, none⟩ = some (.int .i64 (f i).1) ∧ w.cell? ⟨b, off + i * 2 + 1, none⟩ = some (.int .i64 (f i).2)
theorem Prs.below {w w' : World} {B b off n : Nat} {f : Nat → Int × Int} (h : Prs w b off n f) (hb : Below B w w') (hB : b < B) : Prs w' b off n f :=
  ⟨Nat.lt_of_lt_of_le h.1 hb.size, fun i hi => ⟨by rw [hb.cell (p := ⟨b, off + i * 2, none⟩) hB]; exact (h.2 i hi).1, by rw [hb.cell (p := ⟨b, off + i * 2 + 1, none⟩) hB]; exact (h.2 i hi).2⟩⟩
def allOk (f : Nat → Int × Int) : Nat → Bool
  | 0 => true
  | n + 1 => allOk f n && okI (f n).1 (f n).2
theorem allOk_no {f : Nat → Int × Int} {k : Nat} (h : okI (f k).1 (f k).2 = false) : ∀ n, k < n → allOk f n = false
  | 0, hn => absurd hn (Nat.not_lt_zero _)
  | n + 1, hn => by
    rcases Nat.lt_succ_iff_lt_or_eq.1 hn with h1 | h1
    · simp [allOk, allOk_no h n h1]
    · subst h1; simp [allOk, h]
end Go.Proofs.Ytkeijldfblgeaaa
namespace Go.Proofs.Ytkeijldfblgeaaa
open Go.RowKit
set_option linter.unusedVariables false
def rowObj (n : Nat) : Obj := .cells (madeCells #[.int .i64 0, .int .i64 0] (n * 2)) 38
theorem mk_row (n : Nat) (h : n ≤ 1048576) (w : World) : (Instr.makeSlice 43 (.int .i64 (n : Int)) (.int .i64 (n : Int))).run Try.prog w = .ok (.slice (some ⟨w.heap.size, 0, none⟩) n n) (w.alloc (rowObj n)) := by
  obtain ⟨i, hi, hz⟩ := Option.map_eq_some_iff.1 infoIval
  simp only [Prod.mk.injEq] at hz
  obtain ⟨h1, h2, h3⟩ := hz
  have hr := run_make (P := Try.prog) w 43 38 i _ Try.underlying43 hi h1 .i64 .i64 n n (by omega) (Int.le_refl _) (by rw [h3]; omega) (by omega)
  simp only [Int.toNat_natCast, h2] at hr
  exact hr
theorem rowObj_is (w : World) (n : Nat) : (w.alloc (rowObj n)).rowIs w.heap.size 38 (n * 2) (fun _ => .int .i64 0) := by
  have h := World.rowIs_alloc w (madeCells #[.int .i64 0, .int .i64 0] (n * 2)) 38 (fun _ => .int .i64 0) (fun i hi => by
    rw [size_madeCells] at hi
    have : i % 2 = 0 ∨ i % 2 = 1 := by omega
    rcases this with h | h <;> simp [madeCells, hi, h])
  rw [size_madeCells] at h
  exact h
theorem row_prs {w : World} {b t n : Nat} {g : Nat → Value} {f : Nat → Int × Int} (h : w.rowIs b t (n * 2) g) (hg : ∀ j, j < n → g (j * 2) = .int .i64 (f j).1 ∧ g (j * 2 + 1) = .int .i64 (f j).2) : Prs w b 0 n f :=
  ⟨h.lt, fun i hi => ⟨by rw [Nat.zero_add, h.cell (by omega), (hg i hi).1], by rw [Nat.zero_add, h.cell (by omega), (hg i hi).2]⟩⟩
def RowK (w : World) (b t n k : Nat) (f : Nat → Int × Int) : Prop := ∃ g, w.rowIs b t (n * 2) g ∧ ∀ j, j < k → g (j * 2) = .int .i64 (f j).1 ∧ g (j * 2 + 1) = .int .i64 (f j).2
theorem RowK.step {w : World} {b t n k : Nat} {f : Nat → Int × Int} (h : RowK w b t n k f) : RowK ((w.setCell ⟨b, k * 2, none⟩ (.int .i64 (f k).1)).setCell ⟨b, k * 2 + 1, none⟩ (.int .i64 (f k).2)) b t n (k + 1) f := by
  obtain ⟨g, hr, hg⟩ := h
  refine ⟨_, (hr.set _ _).set _ _, fun j hj => ?_⟩
  rcases Nat.lt_succ_iff_lt_or_eq.1 hj with h1 | h1
  · have e1 : ¬ j * 2 = k * 2 + 1 := by omega
    have e2 : ¬ j * 2 = k * 2 := by omega
    have e3 : ¬ j * 2 + 1 = k * 2 + 1 := by omega
    have e4 : ¬ j * 2 + 1 = k * 2 := by omega
    simp only [if_neg e1, if_neg e2, if_neg e3, if_neg e4]
    exact hg j h1
  · subst h1
    have e1 : ¬ j * 2 = j * 2 + 1 := by omega
    simp only [if_neg e1, if_true, and_self]
theorem RowK.below {w w' : World} {B b t n k : Nat} {f : Nat → Int × Int} (h : RowK w b t n k f) (hb : Below B w w') (hB : b < B) : RowK w' b t n k f := by
  obtain ⟨g, hr, hg⟩ := h
  exact ⟨g, hr.of_block (hb.block b hB), hg⟩
theorem RowK.facts {w : World} {b t n k : Nat} {f : Nat → Int × Int} (h : RowK w b t n k f) (hk : k < n) : b < w.heap.size ∧ (∃ v, w.cell? ⟨b, k * 2, none⟩ = some v) ∧ (∃ v, w.cell? ⟨b, k * 2 + 1, none⟩ = some v) ∧ w.frozen? ⟨b, k * 2, none⟩ = false ∧ w.frozen? ⟨b, k * 2 + 1, none⟩ = false := by
  obtain ⟨g, hr, hg⟩ := h
  exact ⟨hr.lt, ⟨_, hr.cell (by omega)⟩, ⟨_, hr.cell (by omega)⟩, hr.frozen _, hr.frozen _⟩
end Go.Proofs.Ytkeijldfblgeaaa
namespace Go.Proofs.Ytkeijldfblgeaaa
open Go.RowKit
set_option linter.unusedVariables false
def acc (B : Int → Int → Int → Int → Bool) (X Y : Int → Int → Int) (f : Nat → Int × Int) : Nat → Bool × Int × Int
  | 0 => (okI (f 0).1 (f 0).2, sel (okI (f 0).1 (f 0).2) (f 0).1, sel (okI (f 0).1 (f 0).2) (f 0).2)
  | k + 1 =>
    ((acc B X Y f k).1 && B (acc B X Y f k).2.1 (acc B X Y f k).2.2 (f (k + 1)).1 (f (k + 1)).2,
     sel ((acc B X Y f k).1 && B (acc B X Y f k).2.1 (acc B X Y f k).2.2 (f (k + 1)).1 (f (k + 1)).2) (X (acc B X Y f k).2.1 (f (k + 1)).1),
     sel ((acc B X Y f k).1 && B (acc B X Y f k).2.1 (acc B X Y f k).2.2 (f (k + 1)).1 (f (k + 1)).2) (Y (acc B X Y f k).2.2 (f (k + 1)).2))
section
variable {B : Int → Int → Int → Int → Bool} {X Y : Int → Int → Int} {f : Nat → Int × Int}
theorem acc_zero : ∀ {m : Nat}, (acc B X Y f m).1 = false → acc B X Y f m = (false, 0, 0)
  | 0, h => by simp only [acc] at h ⊢; rw [h]; rfl
  | m + 1, h => by simp only [acc] at h ⊢; rw [h]; rfl
theorem acc_no {k : Nat} (h : (acc B X Y f k).1 = false) : ∀ m, k ≤ m → (acc B X Y f m).1 = false
  | 0, hm => by have : k = 0 := by omega
                subst this; exact h
  | m + 1, hm => by
    by_cases e : k = m + 1
    · subst e; exact h
    · simp [acc, acc_no h m (by omega)]
theorem acc_step {k : Nat} {x y : Int} (h : acc B X Y f k = (true, x, y)) : acc B X Y f (k + 1) = (B x y (f (k + 1)).1 (f (k + 1)).2, sel (B x y (f (k + 1)).1 (f (k + 1)).2) (X x (f (k + 1)).1), sel (B x y (f (k + 1)).1 (f (k + 1)).2) (Y y (f (k + 1)).2)) := by
  simp [acc, h]
theorem acc_ok (hB : ∀ a b c d, B a b c d = true → okI c d = true) : ∀ {m : Nat}, (acc B X Y f m).1 = true → allOk f (m + 1) = true
  | 0, h => by simp only [acc] at h; simp [allOk, h]
  | m + 1, h => by
    simp only [acc, Bool.and_eq_true] at h
    have h1 := acc_ok hB (m := m) h.1
    have h2 := hB _ _ _ _ h.2
    rw [allOk, h1, h2]; rfl
theorem acc_bad (hB : ∀ a b c d, B a b c d = true → okI c d = true) {n : Nat} (hn : 1 ≤ n) (h : allOk f n = false) : acc B X Y f (n - 1) = (false, 0, 0) := by
  apply acc_zero
  cases e : (acc B X Y f (n - 1)).1
  · rfl
  · have := acc_ok hB e
    rw [show n - 1 + 1 = n by omega, h] at this
    exact absurd this (by simp)
theorem acc_first {n : Nat} (hn : 1 ≤ n) (h : allOk f n = true) : acc B X Y f 0 = (true, (f 0).1, (f 0).2) := by
  have h0 : okI (f 0).1 (f 0).2 = true := by
    cases e : okI (f 0).1 (f 0).2
    · rw [allOk_no e n (by omega)] at h; exact absurd h (by simp)
    · rfl
  simp only [acc, h0]; rfl
end
theorem meetB_ok (a b c d : Int) (h : meetB a b c d = true) : okI c d = true := by
  simp only [meetB, okII, Bool.and_eq_true] at h; exact h.1.2
theorem joinB_ok (a b c d : Int) (h : joinB a b c d = true) : okI c d = true := by
  simp only [joinB, okII, Bool.and_eq_true] at h; exact h.2
end Go.Proofs.Ytkeijldfblgeaaa
namespace Go.Proofs.Ytkeijldfblgeaaa
open Go.RowKit
set_option linter.unusedVariables false
def allR (B : Int → Int → Int → Int → Bool) (X Y : Int → Int → Int) (f : Nat → Int × Int) (n : Nat) : Bool × Int × Int := if 1 ≤ n ∧ n ≤ 64 then acc B X Y f (n - 1) else (false, 0, 0)
theorem allR_in {B : Int → Int → Int → Int → Bool} {X Y : Int → Int → Int} {f : Nat → Int × Int} {n : Nat} (h : 1 ≤ n ∧ n ≤ 64) : allR B X Y f n = acc B X Y f (n - 1) := if_pos h
theorem allR_out {B : Int → Int → Int → Int → Bool} {X Y : Int → Int → Int} {f : Nat → Int × Int} {n : Nat} (h : ¬ (1 ≤ n ∧ n ≤ 64)) : allR B X Y f n = (false, 0, 0) := if_neg h
def Src (w : World) (a : Option Addr) (n : Nat) (f : Nat → Int × Int) : Prop := n = 0 ∨ ∃ b off, a = some ⟨b, off, none⟩ ∧ Prs w b off n f
theorem Src.below {w w' : World} {a : Option Addr} {n : Nat} {f : Nat → Int × Int} (h : Src w a n f) (hb : Below w.heap.size w w') : Src w' a n f := by
  rcases h with h | ⟨b, off, h1, h2⟩
  · exact .inl h
  · exact .inr ⟨b, off, h1, h2.below hb h2.1⟩
end Go.Proofs.Ytkeijldfblgeaaa
namespace Go.Proofs.Ytkeijldfblgeaaa
open Go.RowKit
set_option linter.unusedVariables false
def rowObjMark (n : Nat) : Obj := .cells (madeCells #[.int .i64 0, .int .i64 0] (n * 2)) 41
theorem infoMark : (Try.prog.info? 41).map (fun i => (i.zero, i.size, i.bytes)) = some (some (.agg #[.int .i64 0, .int .i64 0]), 2, 16) := by kernel_rfl
theorem mk_rowMark (n : Nat) (h : n ≤ 1048576) (w : World) : (Instr.makeSlice 31 (.int .i64 (n : Int)) (.int .i64 (n : Int))).run Try.prog w = .ok (.slice (some ⟨w.heap.size, 0, none⟩) n n) (w.alloc (rowObjMark n)) := by
  obtain ⟨i, hi, hz⟩ := Option.map_eq_some_iff.1 infoMark
  simp only [Prod.mk.injEq] at hz
  obtain ⟨h1, h2, h3⟩ := hz
  have hr := run_make (P := Try.prog) w 31 41 i _ Try.underlying31 hi h1 .i64 .i64 n n (by omega) (Int.le_refl _) (by rw [h3]; omega) (by omega)
  simp only [Int.toNat_natCast, h2] at hr
  exact hr
theorem rowObj_isMark (w : World) (n : Nat) : (w.alloc (rowObjMark n)).rowIs w.heap.size 41 (n * 2) (fun _ => .int .i64 0) := by
  have h := World.rowIs_alloc w (madeCells #[.int .i64 0, .int .i64 0] (n * 2)) 41 (fun _ => .int .i64 0) (fun i hi => by
    rw [size_madeCells] at hi
    have : i % 2 = 0 ∨ i % 2 = 1 := by omega
    rcases this with h | h <;> simp [madeCells, hi, h])
  rw [size_madeCells] at h
  exact h
def rowObjStride (n : Nat) : Obj := .cells (madeCells #[.int .i64 0, .int .i64 0] (n * 2)) 64
theorem infoStride : (Try.prog.info? 64).map (fun i => (i.zero, i.size, i.bytes)) = some (some (.agg #[.int .i64 0, .int .i64 0]), 2, 16) := by kernel_rfl
theorem mk_rowStride (n : Nat) (h : n ≤ 1048576) (w : World) : (Instr.makeSlice 28 (.int .i64 (n : Int)) (.int .i64 (n : Int))).run Try.prog w = .ok (.slice (some ⟨w.heap.size, 0, none⟩) n n) (w.alloc (rowObjStride n)) := by
  obtain ⟨i, hi, hz⟩ := Option.map_eq_some_iff.1 infoStride
  simp only [Prod.mk.injEq] at hz
  obtain ⟨h1, h2, h3⟩ := hz
  have hr := run_make (P := Try.prog) w 28 64 i _ Try.underlying28 hi h1 .i64 .i64 n n (by omega) (Int.le_refl _) (by rw [h3]; omega) (by omega)
  simp only [Int.toNat_natCast, h2] at hr
  exact hr
theorem rowObj_isStride (w : World) (n : Nat) : (w.alloc (rowObjStride n)).rowIs w.heap.size 64 (n * 2) (fun _ => .int .i64 0) := by
  have h := World.rowIs_alloc w (madeCells #[.int .i64 0, .int .i64 0] (n * 2)) 64 (fun _ => .int .i64 0) (fun i hi => by
    rw [size_madeCells] at hi
    have : i % 2 = 0 ∨ i % 2 = 1 := by omega
    rcases this with h | h <;> simp [madeCells, hi, h])
  rw [size_madeCells] at h
  exact h
end Go.Proofs.Ytkeijldfblgeaaa
