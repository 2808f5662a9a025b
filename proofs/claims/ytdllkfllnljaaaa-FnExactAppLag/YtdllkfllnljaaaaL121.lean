/- The walks of the exact laws of AppOk and AppLag. -/
import Derived.Test.YtdllkfllnljaaaaA134
import Derived.Test.YtdllkfllnljaaaaA129
import Derived.Test.YtdllkfllnljaaaaA125
import Derived.Deep.RegionHeld3
import Derived.WalkKit
import Derived.WalkSpells
import Derived.WalkLawsBesides
import Derived.Deep.RegionHeld
namespace Go.Proofs.Ytdllkfllnljaaaa
open Go.RowKit
set_option linter.unusedVariables false
set_option maxHeartbeats 4000000 in
theorem lawAppOk (h : Bool) (l : Int) (w : World) (wl : (Lit.int .i64 l).wf = true) :
    Calls Try.prog 5 #[.agg #[.bool h, .int .i64 l]] w fun e w' => e = .returned (.bool true) ∧ Below w.heap.size w w' := by
  clear wl
  have B := Below.nw w (.cells #[.bool h, .int .i64 l] 47)
  have N := Bx2.new w (.bool h) (.int .i64 l) 47
  have CS := fun w' => specAppOk_any h l w'
  have CI := fun w' => implAppOk_any h l w'
  generalize apB h l = q at *
  have hq : (q != q) = false := by simp
  go_enter Try.func5, Try.ntmps5
  go_upto_region 1 with fail
  generalize w.alloc (.cells #[.bool h, .int .i64 l] 47) = v at *
  obtain ⟨n0, n1, n2, n3, n4⟩ := id N
  go_wp2_with fail
  refine (toApp_any h l _).mono ?_
  rintro e v1 ⟨rfl, hbl⟩
  clear n0 n1 n2 n3 n4
  replace N := N.below hbl
  replace B := B.trans (hbl.mono B.size)
  clear hbl
  obtain ⟨n0, n1, n2, n3, n4⟩ := id N
  go_wp2_with fail
  refine (CS _).mono ?_
  rintro e v2 ⟨rfl, hbl⟩
  clear n0 n1 n2 n3 n4
  replace N := N.below hbl
  replace B := B.trans (hbl.mono B.size)
  clear hbl
  obtain ⟨n0, n1, n2, n3, n4⟩ := id N
  go_wp2_with fail
  refine (toApp_any h l _).mono ?_
  rintro e v3 ⟨rfl, hbl⟩
  clear n0 n1 n2 n3 n4
  replace N := N.below hbl
  replace B := B.trans (hbl.mono B.size)
  clear hbl
  obtain ⟨n0, n1, n2, n3, n4⟩ := id N
  go_wp2_with fail
  refine (CI _).mono ?_
  rintro e v4 ⟨rfl, hbl⟩
  clear n0 n1 n2 n3 n4
  replace N := N.below hbl
  replace B := B.trans (hbl.mono B.size)
  clear hbl
  go_wp2_with fail
  go_ret
  exact ⟨rfl, B⟩
set_option maxRecDepth 100000 in
set_option maxHeartbeats 8000000 in
theorem lawAppLag (h : Bool) (l lo hi : Int) (w : World) (wl : (Lit.int .i64 l).wf = true) (wa : (Lit.int .i64 lo).wf = true) (wb : (Lit.int .i64 hi).wf = true) :
    Calls Try.prog 7 #[.agg #[.bool h, .int .i64 l], .agg #[.int .i64 lo, .int .i64 hi]] w fun e w' => e = .returned (.bool true) ∧ Below w.heap.size w w' := by
  clear wl wa wb
  have A0 := Below.nw w (.cells #[.bool h, .int .i64 l] 47)
  have A1 := Below.nw (w.alloc (.cells #[.bool h, .int .i64 l] 47)) (.cells #[.int .i64 lo, .int .i64 hi] 50)
  have N := (Bx2.new w (.bool h) (.int .i64 l) 47).below A1
  have Q := Bx2.new (w.alloc (.cells #[.bool h, .int .i64 l] 47)) (.int .i64 lo) (.int .i64 hi) 50
  have B := A0.trans (A1.mono A0.size)
  simp only [World.size_alloc] at Q
  clear A0 A1
  have CS := fun w' => specAppLag_any h l lo hi w'
  have CI := fun w' => implAppLag_any h l lo hi w'
  generalize lgI h l lo hi = q at *
  go_enter Try.func7, Try.ntmps7
  go_upto_region 1 with fail
  generalize ((w.alloc (.cells #[.bool h, .int .i64 l] 47)).alloc (.cells #[.int .i64 lo, .int .i64 hi] 50)) = v at *
  generalize w.heap.size + 1 = jb at *
  have SK : Hid (∀ w', Below v.heap.size v w' → ((fun w' => w'.cell? ⟨w.heap.size, 0, none⟩ = some (.bool h) ∧ w'.cell? ⟨w.heap.size, 1, none⟩ = some (.int .i64 l) ∧ w'.cell? ⟨jb, 0, none⟩ = some (.int .i64 lo) ∧ w'.cell? ⟨jb, 1, none⟩ = some (.int .i64 hi))) w') := fun w' hw => ⟨(N.below hw).2.1, (N.below hw).2.2.1, (Q.below hw).2.1, (Q.below hw).2.2.1⟩
  go_upto_region 1 with fail
  refine wp_region_held_drew (S := (fun w' => w'.cell? ⟨w.heap.size, 0, none⟩ = some (.bool h) ∧ w'.cell? ⟨w.heap.size, 1, none⟩ = some (.int .i64 l) ∧ w'.cell? ⟨jb, 0, none⟩ = some (.int .i64 lo) ∧ w'.cell? ⟨jb, 1, none⟩ = some (.int .i64 hi))) (by kernel_rfl) ?_ (fun hHeld => ?_)
  · first | exact SK.out _ XB | exact SK.out _ (Below.drew (Below.refl _ _))
  have XB : Below v.heap.size v v.drew := Below.drew (Below.refl _ _)
  generalize v.drew = vx at *
  refine wpAnyH_take (i := 0) (v := ?_) (by rw [List.getElem?_toArray]; rfl) (by kernel_rfl) (by kernel_rfl) (by kernel_rfl) (by intro _ _ _ h; exact h) (Or.inl ⟨by rfl, ?_⟩) (by assumption) ?_
  rotate_left
  · (intro w hSw; (try dsimp only at hSw); go_simp; all_goals with_reducible rfl)
  (try simp only [Act.put, List.setIfInBounds_toArray, List.set_cons_zero, List.set_cons_succ])
  refine wpAnyH_take (i := 2) (v := ?_) (by rw [List.getElem?_toArray]; rfl) (by kernel_rfl) (by kernel_rfl) (by kernel_rfl) (by intro _ _ _ h; exact h) (Or.inl ⟨by rfl, ?_⟩) (by assumption) ?_
  rotate_left
  · (intro w hSw; (try dsimp only at hSw); go_simp; all_goals with_reducible rfl)
  (try simp only [Act.put, List.setIfInBounds_toArray, List.set_cons_zero, List.set_cons_succ])
  refine wpAnyH_ready (rs := [1]) (by kernel_rfl) (by simp) ?_
  refine AllReadyH.cons (by rw [List.getElem?_toArray]; rfl) (fun K hK => ?_) AllReadyH.nil
  go_simp
  refine (toApp_any h l _).mono ?_; rintro ee vx ⟨rfl, hbl⟩; (replace XB := XB.trans (hbl.mono XB.size)); (clear hbl)
  (try go_wp2_with fail)
  refine hK.out _ _ ?_ (fun hHeld => ?_)
  · first | exact SK.out _ XB | exact SK.out _ (Below.drew (Below.refl _ _))
  clear hK K
  (try simp only [Act.put, List.setIfInBounds_toArray, List.set_cons_zero, List.set_cons_succ])
  refine wpAnyH_ready (rs := [3]) (by kernel_rfl) (by simp) ?_
  refine AllReadyH.cons (by rw [List.getElem?_toArray]; rfl) (fun K hK => ?_) AllReadyH.nil
  go_simp
  refine (toIval_any lo hi _).mono ?_; rintro ee vx ⟨rfl, hbl⟩; (replace XB := XB.trans (hbl.mono XB.size)); (clear hbl)
  (try go_wp2_with fail)
  refine hK.out _ _ ?_ (fun hHeld => ?_)
  · first | exact SK.out _ XB | exact SK.out _ (Below.drew (Below.refl _ _))
  clear hK K
  (try simp only [Act.put, List.setIfInBounds_toArray, List.set_cons_zero, List.set_cons_succ])
  refine wpAnyH_ready (rs := [4]) (by kernel_rfl) (by simp) ?_
  refine AllReadyH.cons (by rw [List.getElem?_toArray]; rfl) (fun K hK => ?_) AllReadyH.nil
  go_simp
  refine (CS _).mono ?_; rintro ee vx ⟨rfl, hbl⟩; (replace XB := XB.trans (hbl.mono XB.size)); (clear hbl)
  (try go_wp2_with fail)
  refine hK.out _ _ ?_ (fun hHeld => ?_)
  · first | exact SK.out _ XB | exact SK.out _ (Below.drew (Below.refl _ _))
  clear hK K
  (try simp only [Act.put, List.setIfInBounds_toArray, List.set_cons_zero, List.set_cons_succ])
  refine wpAnyH_take (i := 5) (v := ?_) (by rw [List.getElem?_toArray]; rfl) (by kernel_rfl) (by kernel_rfl) (by kernel_rfl) (by intro _ _ _ h; exact h) (Or.inl ⟨by rfl, ?_⟩) (by assumption) ?_
  rotate_left
  · (intro w hSw; (try dsimp only at hSw); go_simp; all_goals with_reducible rfl)
  (try simp only [Act.put, List.setIfInBounds_toArray, List.set_cons_zero, List.set_cons_succ])
  refine wpAnyH_done (by kernel_rfl) ?_ _
  replace N := N.below XB
  replace Q := Q.below XB
  replace B := B.trans (XB.mono B.size)
  clear XB SK
  generalize vx = v1 at *
  have SK : Hid (∀ w', Below v1.heap.size v1 w' → ((fun w' => w'.cell? ⟨w.heap.size, 0, none⟩ = some (.bool h) ∧ w'.cell? ⟨w.heap.size, 1, none⟩ = some (.int .i64 l) ∧ w'.cell? ⟨jb, 0, none⟩ = some (.int .i64 lo) ∧ w'.cell? ⟨jb, 1, none⟩ = some (.int .i64 hi))) w') := fun w' hw => ⟨(N.below hw).2.1, (N.below hw).2.2.1, (Q.below hw).2.1, (Q.below hw).2.2.1⟩
  go_upto_region 2 with fail
  refine wp_region_held_drew (S := (fun w' => w'.cell? ⟨w.heap.size, 0, none⟩ = some (.bool h) ∧ w'.cell? ⟨w.heap.size, 1, none⟩ = some (.int .i64 l) ∧ w'.cell? ⟨jb, 0, none⟩ = some (.int .i64 lo) ∧ w'.cell? ⟨jb, 1, none⟩ = some (.int .i64 hi))) (by kernel_rfl) ?_ (fun hHeld => ?_)
  · first | exact SK.out _ XB | exact SK.out _ (Below.drew (Below.refl _ _))
  have XB : Below v1.heap.size v1 v1.drew := Below.drew (Below.refl _ _)
  generalize v1.drew = vx at *
  refine wpAnyH_take (i := 0) (v := ?_) (by rw [List.getElem?_toArray]; rfl) (by kernel_rfl) (by kernel_rfl) (by kernel_rfl) (by intro _ _ _ h; exact h) (Or.inl ⟨by rfl, ?_⟩) (by assumption) ?_
  rotate_left
  · (intro w hSw; (try dsimp only at hSw); go_simp; all_goals with_reducible rfl)
  (try simp only [Act.put, List.setIfInBounds_toArray, List.set_cons_zero, List.set_cons_succ])
  refine wpAnyH_take (i := 2) (v := ?_) (by rw [List.getElem?_toArray]; rfl) (by kernel_rfl) (by kernel_rfl) (by kernel_rfl) (by intro _ _ _ h; exact h) (Or.inl ⟨by rfl, ?_⟩) (by assumption) ?_
  rotate_left
  · (intro w hSw; (try dsimp only at hSw); go_simp; all_goals with_reducible rfl)
  (try simp only [Act.put, List.setIfInBounds_toArray, List.set_cons_zero, List.set_cons_succ])
  refine wpAnyH_ready (rs := [1]) (by kernel_rfl) (by simp) ?_
  refine AllReadyH.cons (by rw [List.getElem?_toArray]; rfl) (fun K hK => ?_) AllReadyH.nil
  go_simp
  refine (toApp_any h l _).mono ?_; rintro ee vx ⟨rfl, hbl⟩; (replace XB := XB.trans (hbl.mono XB.size)); (clear hbl)
  (try go_wp2_with fail)
  refine hK.out _ _ ?_ (fun hHeld => ?_)
  · first | exact SK.out _ XB | exact SK.out _ (Below.drew (Below.refl _ _))
  clear hK K
  (try simp only [Act.put, List.setIfInBounds_toArray, List.set_cons_zero, List.set_cons_succ])
  refine wpAnyH_ready (rs := [3]) (by kernel_rfl) (by simp) ?_
  refine AllReadyH.cons (by rw [List.getElem?_toArray]; rfl) (fun K hK => ?_) AllReadyH.nil
  go_simp
  refine (toIval_any lo hi _).mono ?_; rintro ee vx ⟨rfl, hbl⟩; (replace XB := XB.trans (hbl.mono XB.size)); (clear hbl)
  (try go_wp2_with fail)
  refine hK.out _ _ ?_ (fun hHeld => ?_)
  · first | exact SK.out _ XB | exact SK.out _ (Below.drew (Below.refl _ _))
  clear hK K
  (try simp only [Act.put, List.setIfInBounds_toArray, List.set_cons_zero, List.set_cons_succ])
  refine wpAnyH_ready (rs := [4]) (by kernel_rfl) (by simp) ?_
  refine AllReadyH.cons (by rw [List.getElem?_toArray]; rfl) (fun K hK => ?_) AllReadyH.nil
  go_simp
  refine (CI _).mono ?_; rintro ee vx ⟨rfl, hbl⟩; (replace XB := XB.trans (hbl.mono XB.size)); (clear hbl)
  (try go_wp2_with fail)
  refine hK.out _ _ ?_ (fun hHeld => ?_)
  · first | exact SK.out _ XB | exact SK.out _ (Below.drew (Below.refl _ _))
  clear hK K
  (try simp only [Act.put, List.setIfInBounds_toArray, List.set_cons_zero, List.set_cons_succ])
  refine wpAnyH_take (i := 5) (v := ?_) (by rw [List.getElem?_toArray]; rfl) (by kernel_rfl) (by kernel_rfl) (by kernel_rfl) (by intro _ _ _ h; exact h) (Or.inl ⟨by rfl, ?_⟩) (by assumption) ?_
  rotate_left
  · (intro w hSw; (try dsimp only at hSw); go_simp; all_goals with_reducible rfl)
  (try simp only [Act.put, List.setIfInBounds_toArray, List.set_cons_zero, List.set_cons_succ])
  refine wpAnyH_done (by kernel_rfl) ?_ _
  replace N := N.below XB
  replace Q := Q.below XB
  replace B := B.trans (XB.mono B.size)
  clear XB SK
  generalize vx = v2 at *
  go_wp2_with fail
  go_ret
  exact ⟨rfl, B⟩
end Go.Proofs.Ytdllkfllnljaaaa
