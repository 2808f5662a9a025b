/- IvalText: the specification, the program, the walk of the law. -/
import Derived.Test.YtddjiamollfplaaDoorX222
import Derived.Test.YtddjiamollfplaaDoorL21T
import Derived.Test.YtddjiamollfplaaDoorW1
import Derived.Deep.RegionHeld3
import Derived.WalkKit
import Derived.WalkSpells
import Derived.WalkLawsBesides
import Derived.Deep.RegionHeld
namespace Go.Proofs.YtddjiamollfplaaDoor
open Go.RowKit
set_option linter.unusedVariables false
/- The text of an interval. -/
def ivT (a b : Int) : ByteArray := txI a ++ ⟨#[46, 46]⟩ ++ txI b
theorem txI_size' (n : Int) : (txI n).size ≤ 21 := by
  have q : ∀ (f K : Nat) (o : ByteArray), (tdS f K o).size ≤ o.size + f := by
    intro f
    induction f with
    | zero => intro K o; simp [tdS]
    | succ f ih =>
      intro K o
      by_cases h : K = 0
      · subst h; rw [tdS_end]; omega
      · rw [tdS_go h]
        have q := ih (K / 10) (strOfNums [48 + (K : Int) % 10] ++ o)
        rw [ByteArray.size_append, strOfNums_size] at q
        simp at q
        omega
  have q := q 20 n.natAbs ⟨#[]⟩
  have e0 : (⟨#[]⟩ : ByteArray).size = 0 := rfl
  have e1 : (⟨#[45]⟩ : ByteArray).size = 1 := rfl
  have e2 : (⟨#[48]⟩ : ByteArray).size = 1 := rfl
  unfold txI dgs
  split
  · omega
  · split
    · rw [ByteArray.size_append]; omega
    · omega
theorem ivT_size (a b : Int) : (ivT a b).size ≤ 44 := by
  have h1 := txI_size' a
  have h2 := txI_size' b
  have e : (⟨#[46, 46]⟩ : ByteArray).size = 2 := rfl
  unfold ivT
  rw [ByteArray.size_append, ByteArray.size_append]
  omega
set_option maxHeartbeats 4000000 in
set_option maxRecDepth 100000 in
theorem specIvalText_any (a b : Int) (w : World) (a0 : -9223372036854775808 ≤ a) (a1 : a ≤ 9223372036854775807) (b0 : -9223372036854775808 ≤ b) (b1 : b ≤ 9223372036854775807) :
    Calls Tryd.prog 39 #[.agg #[.int .i64 a, .int .i64 b]] w fun e w' => e = .returned (.string (ivT a b)) ∧ Below w.heap.size w w' := by
  have B := Below.nw w (.cells #[.int .i64 a, .int .i64 b] 59)
  have q0 : (w.alloc (.cells #[.int .i64 a, .int .i64 b] 59)).cell? ⟨w.heap.size, 0, none⟩ = some (.int .i64 a) := by simp
  have q1 : (w.alloc (.cells #[.int .i64 a, .int .i64 b] 59)).cell? ⟨w.heap.size, 1, none⟩ = some (.int .i64 b) := by simp
  have hlt : w.heap.size < (w.alloc (.cells #[.int .i64 a, .int .i64 b] 59)).heap.size := by simp
  have HX : Hid (ivT a b = txI a ++ ⟨#[46, 46]⟩ ++ txI b) := rfl
  have hza := txI_size' a
  have hzb := txI_size' b
  have CTa := fun (u : World) (_ : True) => specTextOf_any a u a0 a1
  have CTb := fun (u : World) (_ : True) => specTextOf_any b u b0 b1
  generalize ivT a b = X at *
  generalize txI a = sa at *
  generalize txI b = sb at *
  have e2 : (⟨#[46, 46]⟩ : ByteArray).size = 2 := rfl
  have hz1 : (sa ++ ⟨#[46, 46]⟩ : ByteArray).size = sa.size + 2 := by rw [ByteArray.size_append, e2]
  have hl1 : ¬ 9223372036854775807 < sa.size + 2 := by omega
  have hl2 : ¬ 9223372036854775807 < sa.size + 2 + sb.size := by omega
  clear a0 a1 b0 b1 hza hzb
  go_enter Tryd.func39, Tryd.ntmps39
  go_upto_region 1 with fail
  generalize w.alloc (.cells #[.int .i64 a, .int .i64 b] 59) = v at *
  have SK : Hid (∀ w', Below v.heap.size v w' → (fun w' => w'.cell? ⟨w.heap.size, 0, none⟩ = some (.int .i64 a) ∧ w'.cell? ⟨w.heap.size, 1, none⟩ = some (.int .i64 b)) w') := fun w' h => ⟨by rw [h.cell (p := ⟨w.heap.size, 0, none⟩) hlt]; exact q0, by rw [h.cell (p := ⟨w.heap.size, 1, none⟩) hlt]; exact q1⟩
  clear q0 q1 hlt
  refine wp_region_held_drew (S := (fun w' => w'.cell? ⟨w.heap.size, 0, none⟩ = some (.int .i64 a) ∧ w'.cell? ⟨w.heap.size, 1, none⟩ = some (.int .i64 b))) (by kernel_rfl) ?_ (fun hHeld => ?_)
  · first | exact SK.out _ XB | exact SK.out _ (Below.drew (Below.refl _ _))
  have XB : Below v.heap.size v v.drew := Below.drew (Below.refl _ _)
  generalize v.drew = vx at *
  refine wpAnyH_take (i := 0) (v := ?_) (by rw [List.getElem?_toArray]; rfl) (by kernel_rfl) (by kernel_rfl) (by kernel_rfl) (by intro _ _ _ h; exact h) (Or.inl ⟨by rfl, ?_⟩) (by assumption) ?_
  rotate_left
  · (intro w hSw; (try dsimp only at hSw); go_simp; all_goals with_reducible rfl)
  (try simp only [Act.put, List.setIfInBounds_toArray, List.set_cons_zero, List.set_cons_succ])
  refine wpAnyH_take (i := 1) (v := ?_) (by rw [List.getElem?_toArray]; rfl) (by kernel_rfl) (by kernel_rfl) (by kernel_rfl) (by intro _ _ _ h; exact h) (Or.inl ⟨by rfl, ?_⟩) (by assumption) ?_
  rotate_left
  · (intro w hSw; (try dsimp only at hSw); go_simp; all_goals with_reducible rfl)
  (try simp only [Act.put, List.setIfInBounds_toArray, List.set_cons_zero, List.set_cons_succ])
  refine wpAnyH_take (i := 4) (v := ?_) (by rw [List.getElem?_toArray]; rfl) (by kernel_rfl) (by kernel_rfl) (by kernel_rfl) (by intro _ _ _ h; exact h) (Or.inl ⟨by rfl, ?_⟩) (by assumption) ?_
  rotate_left
  · (intro w hSw; (try dsimp only at hSw); go_simp; all_goals with_reducible rfl)
  (try simp only [Act.put, List.setIfInBounds_toArray, List.set_cons_zero, List.set_cons_succ])
  refine wpAnyH_take (i := 5) (v := ?_) (by rw [List.getElem?_toArray]; rfl) (by kernel_rfl) (by kernel_rfl) (by kernel_rfl) (by intro _ _ _ h; exact h) (Or.inl ⟨by rfl, ?_⟩) (by assumption) ?_
  rotate_left
  · (intro w hSw; (try dsimp only at hSw); go_simp; all_goals with_reducible rfl)
  (try simp only [Act.put, List.setIfInBounds_toArray, List.set_cons_zero, List.set_cons_succ])
  refine wpAnyH_ready (rs := [2]) (by kernel_rfl) (by simp) ?_
  refine AllReadyH.cons (by rw [List.getElem?_toArray]; rfl) (fun K hK => ?_) AllReadyH.nil
  go_simp
  refine (CTa _ trivial).mono ?_; rintro ee vx ⟨rfl, hbl⟩; (replace XB := XB.trans (hbl.mono XB.size)); (clear hbl)
  (try go_wp2_with fail)
  refine hK.out _ _ ?_ (fun hHeld => ?_)
  · first | exact SK.out _ XB | exact SK.out _ (Below.drew (Below.refl _ _))
  clear hK K
  (try simp only [Act.put, List.setIfInBounds_toArray, List.set_cons_zero, List.set_cons_succ])
  refine wpAnyH_take (i := 3) (v := ?_) (by rw [List.getElem?_toArray]; rfl) (by kernel_rfl) (by kernel_rfl) (by kernel_rfl) (by intro _ _ _ h; exact h) (Or.inl ⟨by rfl, ?_⟩) (by assumption) ?_
  rotate_left
  · (intro w hSw; (try dsimp only at hSw); go_simp; all_goals with_reducible rfl)
  (try simp only [Act.put, List.setIfInBounds_toArray, List.set_cons_zero, List.set_cons_succ])
  refine wpAnyH_ready (rs := [6]) (by kernel_rfl) (by simp) ?_
  refine AllReadyH.cons (by rw [List.getElem?_toArray]; rfl) (fun K hK => ?_) AllReadyH.nil
  go_simp
  refine (CTb _ trivial).mono ?_; rintro ee vx ⟨rfl, hbl⟩; (replace XB := XB.trans (hbl.mono XB.size)); (clear hbl)
  (try go_wp2_with fail)
  refine hK.out _ _ ?_ (fun hHeld => ?_)
  · first | exact SK.out _ XB | exact SK.out _ (Below.drew (Below.refl _ _))
  clear hK K
  (try simp only [Act.put, List.setIfInBounds_toArray, List.set_cons_zero, List.set_cons_succ])
  refine wpAnyH_take (i := 7) (v := ?_) (by rw [List.getElem?_toArray]; rfl) (by kernel_rfl) (by kernel_rfl) (by kernel_rfl) (by intro _ _ _ h; exact h) (Or.inl ⟨by rfl, ?_⟩) (by assumption) ?_
  rotate_left
  · (intro w hSw; (try dsimp only at hSw); go_simp; all_goals with_reducible rfl)
  (try simp only [Act.put, List.setIfInBounds_toArray, List.set_cons_zero, List.set_cons_succ])
  refine wpAnyH_take (i := 8) (v := ?_) (by rw [List.getElem?_toArray]; rfl) (by kernel_rfl) (by kernel_rfl) (by kernel_rfl) (by intro _ _ _ h; exact h) (Or.inl ⟨by rfl, ?_⟩) (by assumption) ?_
  rotate_left
  · (intro w hSw; (try dsimp only at hSw); go_simp; all_goals with_reducible rfl)
  (try simp only [Act.put, List.setIfInBounds_toArray, List.set_cons_zero, List.set_cons_succ])
  refine wpAnyH_done (by kernel_rfl) ?_ _
  have BX := B.trans (XB.mono B.size)
  go_wp2_with fail
  go_ret
  exact ⟨by rw [HX.out]; rfl, BX⟩
set_option maxHeartbeats 4000000 in
set_option maxRecDepth 100000 in
theorem implIvalText_any (a b : Int) (w : World) (a0 : -9223372036854775808 ≤ a) (a1 : a ≤ 9223372036854775807) (b0 : -9223372036854775808 ≤ b) (b1 : b ≤ 9223372036854775807) (E0 : T10 w) :
    Calls Tryd.prog 41 #[.agg #[.int .i64 a, .int .i64 b]] w fun e w' => e = .returned (.string (ivT a b)) ∧ Below w.heap.size w w' := by
  have B := Below.nw w (.cells #[.int .i64 a, .int .i64 b] 59)
  have q0 : (w.alloc (.cells #[.int .i64 a, .int .i64 b] 59)).cell? ⟨w.heap.size, 0, none⟩ = some (.int .i64 a) := by simp
  have q1 : (w.alloc (.cells #[.int .i64 a, .int .i64 b] 59)).cell? ⟨w.heap.size, 1, none⟩ = some (.int .i64 b) := by simp
  have hlt : w.heap.size < (w.alloc (.cells #[.int .i64 a, .int .i64 b] 59)).heap.size := by simp
  have HX : Hid (ivT a b = txI a ++ ⟨#[46, 46]⟩ ++ txI b) := rfl
  have hza := txI_size' a
  have hzb := txI_size' b
  have HE : Hid (T10 w) := E0
  have CTa := fun (u : World) (h : Below w.heap.size w u) => implTextOf_any a u a0 a1 (HE.out.below h)
  have CTb := fun (u : World) (h : Below w.heap.size w u) => implTextOf_any b u b0 b1 (HE.out.below h)
  clear E0
  generalize ivT a b = X at *
  generalize txI a = sa at *
  generalize txI b = sb at *
  have e2 : (⟨#[46, 46]⟩ : ByteArray).size = 2 := rfl
  have hz1 : (sa ++ ⟨#[46, 46]⟩ : ByteArray).size = sa.size + 2 := by rw [ByteArray.size_append, e2]
  have hl1 : ¬ 9223372036854775807 < sa.size + 2 := by omega
  have hl2 : ¬ 9223372036854775807 < sa.size + 2 + sb.size := by omega
  clear a0 a1 b0 b1 hza hzb
  go_enter Tryd.func41, Tryd.ntmps41
  go_upto_region 1 with fail
  generalize w.alloc (.cells #[.int .i64 a, .int .i64 b] 59) = v at *
  have SK : Hid (∀ w', Below v.heap.size v w' → (fun w' => w'.cell? ⟨w.heap.size, 0, none⟩ = some (.int .i64 a) ∧ w'.cell? ⟨w.heap.size, 1, none⟩ = some (.int .i64 b)) w') := fun w' h => ⟨by rw [h.cell (p := ⟨w.heap.size, 0, none⟩) hlt]; exact q0, by rw [h.cell (p := ⟨w.heap.size, 1, none⟩) hlt]; exact q1⟩
  clear q0 q1 hlt
  refine wp_region_held_drew (S := (fun w' => w'.cell? ⟨w.heap.size, 0, none⟩ = some (.int .i64 a) ∧ w'.cell? ⟨w.heap.size, 1, none⟩ = some (.int .i64 b))) (by kernel_rfl) ?_ (fun hHeld => ?_)
  · first | exact SK.out _ XB | exact SK.out _ (Below.drew (Below.refl _ _))
  have XB : Below v.heap.size v v.drew := Below.drew (Below.refl _ _)
  generalize v.drew = vx at *
  refine wpAnyH_take (i := 0) (v := ?_) (by rw [List.getElem?_toArray]; rfl) (by kernel_rfl) (by kernel_rfl) (by kernel_rfl) (by intro _ _ _ h; exact h) (Or.inl ⟨by rfl, ?_⟩) (by assumption) ?_
  rotate_left
  · (intro w hSw; (try dsimp only at hSw); go_simp; all_goals with_reducible rfl)
  (try simp only [Act.put, List.setIfInBounds_toArray, List.set_cons_zero, List.set_cons_succ])
  refine wpAnyH_take (i := 1) (v := ?_) (by rw [List.getElem?_toArray]; rfl) (by kernel_rfl) (by kernel_rfl) (by kernel_rfl) (by intro _ _ _ h; exact h) (Or.inl ⟨by rfl, ?_⟩) (by assumption) ?_
  rotate_left
  · (intro w hSw; (try dsimp only at hSw); go_simp; all_goals with_reducible rfl)
  (try simp only [Act.put, List.setIfInBounds_toArray, List.set_cons_zero, List.set_cons_succ])
  refine wpAnyH_take (i := 4) (v := ?_) (by rw [List.getElem?_toArray]; rfl) (by kernel_rfl) (by kernel_rfl) (by kernel_rfl) (by intro _ _ _ h; exact h) (Or.inl ⟨by rfl, ?_⟩) (by assumption) ?_
  rotate_left
  · (intro w hSw; (try dsimp only at hSw); go_simp; all_goals with_reducible rfl)
  (try simp only [Act.put, List.setIfInBounds_toArray, List.set_cons_zero, List.set_cons_succ])
  refine wpAnyH_take (i := 5) (v := ?_) (by rw [List.getElem?_toArray]; rfl) (by kernel_rfl) (by kernel_rfl) (by kernel_rfl) (by intro _ _ _ h; exact h) (Or.inl ⟨by rfl, ?_⟩) (by assumption) ?_
  rotate_left
  · (intro w hSw; (try dsimp only at hSw); go_simp; all_goals with_reducible rfl)
  (try simp only [Act.put, List.setIfInBounds_toArray, List.set_cons_zero, List.set_cons_succ])
  refine wpAnyH_ready (rs := [2]) (by kernel_rfl) (by simp) ?_
  refine AllReadyH.cons (by rw [List.getElem?_toArray]; rfl) (fun K hK => ?_) AllReadyH.nil
  go_simp
  refine (CTa _ (B.trans (XB.mono B.size))).mono ?_; rintro ee vx ⟨rfl, hbl⟩; (replace XB := XB.trans (hbl.mono XB.size)); (clear hbl)
  (try go_wp2_with fail)
  refine hK.out _ _ ?_ (fun hHeld => ?_)
  · first | exact SK.out _ XB | exact SK.out _ (Below.drew (Below.refl _ _))
  clear hK K
  (try simp only [Act.put, List.setIfInBounds_toArray, List.set_cons_zero, List.set_cons_succ])
  refine wpAnyH_take (i := 3) (v := ?_) (by rw [List.getElem?_toArray]; rfl) (by kernel_rfl) (by kernel_rfl) (by kernel_rfl) (by intro _ _ _ h; exact h) (Or.inl ⟨by rfl, ?_⟩) (by assumption) ?_
  rotate_left
  · (intro w hSw; (try dsimp only at hSw); go_simp; all_goals with_reducible rfl)
  (try simp only [Act.put, List.setIfInBounds_toArray, List.set_cons_zero, List.set_cons_succ])
  refine wpAnyH_ready (rs := [6]) (by kernel_rfl) (by simp) ?_
  refine AllReadyH.cons (by rw [List.getElem?_toArray]; rfl) (fun K hK => ?_) AllReadyH.nil
  go_simp
  refine (CTb _ (B.trans (XB.mono B.size))).mono ?_; rintro ee vx ⟨rfl, hbl⟩; (replace XB := XB.trans (hbl.mono XB.size)); (clear hbl)
  (try go_wp2_with fail)
  refine hK.out _ _ ?_ (fun hHeld => ?_)
  · first | exact SK.out _ XB | exact SK.out _ (Below.drew (Below.refl _ _))
  clear hK K
  (try simp only [Act.put, List.setIfInBounds_toArray, List.set_cons_zero, List.set_cons_succ])
  refine wpAnyH_take (i := 7) (v := ?_) (by rw [List.getElem?_toArray]; rfl) (by kernel_rfl) (by kernel_rfl) (by kernel_rfl) (by intro _ _ _ h; exact h) (Or.inl ⟨by rfl, ?_⟩) (by assumption) ?_
  rotate_left
  · (intro w hSw; (try dsimp only at hSw); go_simp; all_goals with_reducible rfl)
  (try simp only [Act.put, List.setIfInBounds_toArray, List.set_cons_zero, List.set_cons_succ])
  refine wpAnyH_take (i := 8) (v := ?_) (by rw [List.getElem?_toArray]; rfl) (by kernel_rfl) (by kernel_rfl) (by kernel_rfl) (by intro _ _ _ h; exact h) (Or.inl ⟨by rfl, ?_⟩) (by assumption) ?_
  rotate_left
  · (intro w hSw; (try dsimp only at hSw); go_simp; all_goals with_reducible rfl)
  (try simp only [Act.put, List.setIfInBounds_toArray, List.set_cons_zero, List.set_cons_succ])
  refine wpAnyH_done (by kernel_rfl) ?_ _
  have BX := B.trans (XB.mono B.size)
  go_wp2_with fail
  go_ret
  exact ⟨by rw [HX.out]; rfl, BX⟩
set_option maxHeartbeats 4000000 in
theorem walkIvalText (a b : Int) (w : World) (E0 : T10 w) (g0 : (Lit.int .i64 a).wf = true) (g1 : (Lit.int .i64 b).wf = true) :
    Calls Tryd.prog 10 #[.agg #[.int .i64 a, .int .i64 b]] w fun e w' => e = .returned (.bool true) ∧ Below w.heap.size w w' := by
  obtain ⟨a0, a1⟩ := wfI g0
  obtain ⟨b0, b1⟩ := wfI g1
  have B := Below.nw w (.cells #[.int .i64 a, .int .i64 b] 57)
  have q0 : (w.alloc (.cells #[.int .i64 a, .int .i64 b] 57)).cell? ⟨w.heap.size, 0, none⟩ = some (.int .i64 a) := by simp
  have q1 : (w.alloc (.cells #[.int .i64 a, .int .i64 b] 57)).cell? ⟨w.heap.size, 1, none⟩ = some (.int .i64 b) := by simp
  have hlt : w.heap.size < (w.alloc (.cells #[.int .i64 a, .int .i64 b] 57)).heap.size := by simp
  have HE : Hid (T10 w) := E0
  have CS := fun (u : World) => specIvalText_any a b u a0 a1 b0 b1
  have CI := fun (u : World) (h : Below w.heap.size w u) => implIvalText_any a b u a0 a1 b0 b1 (HE.out.below h)
  clear g0 g1 a0 a1 b0 b1 E0
  generalize ivT a b = X at *
  go_enter Tryd.func10, Tryd.ntmps10
  go_upto_region 1 with fail
  generalize w.alloc (.cells #[.int .i64 a, .int .i64 b] 57) = v at *
  go_wp2_with fail
  refine (toIval_any a b _).mono ?_
  rintro e w1 ⟨rfl, b1⟩
  have B1 := B.trans (b1.mono B.size)
  replace q0 := (b1.cell (p := ⟨w.heap.size, 0, none⟩) hlt).trans q0
  replace q1 := (b1.cell (p := ⟨w.heap.size, 1, none⟩) hlt).trans q1
  replace hlt := Nat.lt_of_lt_of_le hlt b1.size
  clear b1 B
  go_wp2_with fail
  refine (CS _).mono ?_
  rintro e w2 ⟨rfl, b1⟩
  have B2 := B1.trans (b1.mono B1.size)
  replace q0 := (b1.cell (p := ⟨w.heap.size, 0, none⟩) hlt).trans q0
  replace q1 := (b1.cell (p := ⟨w.heap.size, 1, none⟩) hlt).trans q1
  clear b1 B1 hlt
  go_wp2_with fail
  refine (toIval_any a b _).mono ?_
  rintro e w3 ⟨rfl, b1⟩
  have B3 := B2.trans (b1.mono B2.size)
  clear b1 B2 q0 q1
  go_wp2_with fail
  refine (CI _ B3).mono ?_
  rintro e w4 ⟨rfl, b1⟩
  have B4 := B3.trans (b1.mono B3.size)
  go_wp2_with fail
  go_ret
  exact ⟨rfl, B4⟩
end Go.Proofs.YtddjiamollfplaaDoor
