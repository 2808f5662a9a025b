/- FracOk and FracOf of the program. -/
import Derived.Test.YtpjaekofibpgnaaDoorF123
import Derived.Test.YtpjaekofibpgnaaDoorI105
import Derived.Deep.RegionHeld3
import Derived.WalkKit
import Derived.WalkSpells
import Derived.WalkLawsBesides
import Derived.Deep.RegionHeld
namespace Go.Proofs.YtpjaekofibpgnaaDoor
open Go.RowKit
set_option linter.unusedVariables false
theorem keepC {w : World} {g i j k : Nat} {x u : Value} (h : w.cell? ⟨g, i, none⟩ = some x) (hj : g ≠ j) : (w.setCell ⟨j, k, none⟩ u).cell? ⟨g, i, none⟩ = some x := by
  rw [World.cell?_of_block (w := w) (Below.heap_setCell _ _ _ _ hj)]
  exact h
set_option maxRecDepth 100000 in
set_option maxHeartbeats 4000000 in
theorem implFracOf_any (x y : Int) (a : Addr) (w : World) (E : Er w 0 a) : Calls Tryd.prog 23 #[.int .i64 x, .int .i64 y] w fun e w' => e = .returned (.tuple #[.agg #[.int .i64 (foX x y), .int .i64 (foY x y)], .bool (foB x y)]) ∧ Below w.heap.size w w' := by
  have A := Below.nw w (.cells #[.int .i64 0, .int .i64 0] 27)
  have N := Bx2.new w (.int .i64 0) (.int .i64 0) 27
  have hg : 0 ≠ w.heap.size := Nat.ne_of_lt E.2.1
  replace E := E.alloc (.cells #[.int .i64 0, .int .i64 0] 27)
  have CL := fun w' E' => lowest_any x y a w' E'
  generalize foX x y = fx at *
  generalize foY x y = fy at *
  generalize foB x y = fb at *
  go_enter Tryd.func23, Tryd.ntmps23
  go_upto_region 1 with fail
  generalize w.alloc (.cells #[.int .i64 0, .int .i64 0] 27) = v at *
  go_wp2_with fail
  refine (CL v E).mono ?_
  rintro e v2 ⟨rfl, hb⟩
  replace N := N.below hb
  replace E := E.below hb
  replace A := A.trans (hb.mono A.size)
  clear hb CL
  have M := Bx2.new v2 (.int .i64 fx) (.int .i64 fy) 27
  have A2 := Below.nw v2 (.cells #[.int .i64 fx, .int .i64 fy] 27)
  have hj : v2.heap.size ≠ w.heap.size := Nat.ne_of_gt N.1
  replace N := N.below A2
  replace E := E.below A2
  replace A := A.trans (A2.mono A.size)
  clear A2
  go_upto_region 2 with fail
  generalize v2.alloc (.cells #[.int .i64 fx, .int .i64 fy] 27) = v3 at *
  generalize v2.heap.size = j at *
  have k0 := E.1
  clear E
  have NN := (N.set0 (.int .i64 fx)).set1 (.int .i64 fy)
  have AA := ((Below.drew A).setCell (p := ⟨w.heap.size, 0, none⟩) (Nat.le_refl _) (.int .i64 fx)).setCell (p := ⟨w.heap.size, 1, none⟩) (Nat.le_refl _) (.int .i64 fy)
  obtain ⟨n0, n1, n2, n3, n4⟩ := id N
  obtain ⟨m0, m1, m2, m3, m4⟩ := id M
  refine wp_region_held_drew (S := (fun w' => w'.cell? ⟨0, 0, none⟩ = some (.iface 94 (.pointer (some a))) ∧ w'.cell? ⟨j, 0, none⟩ = some (.int .i64 fx) ∧ w'.cell? ⟨j, 1, none⟩ = some (.int .i64 fy))) (by kernel_rfl) ?_ (fun hHeld => ?_)
  · first | exact ⟨k0, m1, m2⟩ | exact hHeld | exact ⟨keepC (keepC k0 hg) hg, keepC (keepC m1 hj) hj, keepC (keepC m2 hj) hj⟩
  refine wpAnyH_take (i := 0) (v := ?_) (by rw [List.getElem?_toArray]; rfl) (by kernel_rfl) (by kernel_rfl) (by kernel_rfl) (by intro _ _ _ h; exact h) (Or.inl ⟨by rfl, ?_⟩) (by assumption) ?_
  rotate_left
  · (intro w hSw; (try dsimp only at hSw); go_simp; all_goals with_reducible rfl)
  (try simp only [Act.put, List.setIfInBounds_toArray, List.set_cons_zero, List.set_cons_succ])
  refine wpAnyH_take (i := 1) (v := ?_) (by rw [List.getElem?_toArray]; rfl) (by kernel_rfl) (by kernel_rfl) (by kernel_rfl) (by intro _ _ _ h; exact h) (Or.inl ⟨by rfl, ?_⟩) (by assumption) ?_
  rotate_left
  · (intro w hSw; (try dsimp only at hSw); go_simp; all_goals with_reducible rfl)
  (try simp only [Act.put, List.setIfInBounds_toArray, List.set_cons_zero, List.set_cons_succ])
  refine wpAnyH_take (i := 2) (v := ?_) (by rw [List.getElem?_toArray]; rfl) (by kernel_rfl) (by kernel_rfl) (by kernel_rfl) (by intro _ _ _ h; exact h) (Or.inl ⟨by rfl, ?_⟩) (by assumption) ?_
  rotate_left
  · (intro w hSw; (try dsimp only at hSw); go_simp; all_goals with_reducible rfl)
  (try simp only [Act.put, List.setIfInBounds_toArray, List.set_cons_zero, List.set_cons_succ])
  refine wpAnyH_ready (rs := [3]) (by kernel_rfl) (by simp) ?_
  refine AllReadyH.cons (by rw [List.getElem?_toArray]; rfl) (fun K hK => ?_) AllReadyH.nil
  go_simp
  refine (is_nf a fb _).mono ?_; rintro e w' ⟨rfl, rfl⟩
  (try go_wp2_with fail)
  refine hK.out _ _ ?_ (fun hHeld => ?_)
  · first | exact ⟨k0, m1, m2⟩ | exact hHeld | exact ⟨keepC (keepC k0 hg) hg, keepC (keepC m1 hj) hj, keepC (keepC m2 hj) hj⟩
  clear hK K
  (try simp only [Act.put, List.setIfInBounds_toArray, List.set_cons_zero, List.set_cons_succ])
  refine wpAnyH_take (i := 4) (v := ?_) (by rw [List.getElem?_toArray]; rfl) (by kernel_rfl) (by kernel_rfl) (by kernel_rfl) (by intro _ _ _ h; exact h) (Or.inl ⟨by rfl, ?_⟩) (by assumption) ?_
  rotate_left
  · (intro w hSw; (try dsimp only at hSw); go_simp; all_goals with_reducible rfl)
  (try simp only [Act.put, List.setIfInBounds_toArray, List.set_cons_zero, List.set_cons_succ])
  refine wpAnyH_ready (rs := [5]) (by kernel_rfl) (by simp) ?_
  refine AllReadyH.cons (by rw [List.getElem?_toArray]; rfl) (fun K hK => ?_) AllReadyH.nil
  go_simp
  refine hK.out _ _ ?_ (fun hHeld => ?_)
  · first | exact ⟨k0, m1, m2⟩ | exact hHeld | exact ⟨keepC (keepC k0 hg) hg, keepC (keepC m1 hj) hj, keepC (keepC m2 hj) hj⟩
  clear hK K
  (try simp only [Act.put, List.setIfInBounds_toArray, List.set_cons_zero, List.set_cons_succ])
  refine wpAnyH_take (i := 6) (v := ?_) (by rw [List.getElem?_toArray]; rfl) (by kernel_rfl) (by kernel_rfl) (by kernel_rfl) (by intro _ _ _ h; exact h) (Or.inl ⟨by rfl, ?_⟩) (by assumption) ?_
  rotate_left
  · (intro w hSw; (try dsimp only at hSw); go_simp; all_goals with_reducible rfl)
  (try simp only [Act.put, List.setIfInBounds_toArray, List.set_cons_zero, List.set_cons_succ])
  refine wpAnyH_done (by kernel_rfl) ?_ _
  go_wp2_with fail
  exact bodyPost_ret (v := .tuple #[.agg #[.int .i64 fx, .int .i64 fy], .bool fb]) (by cases fb <;> simp (maxDischargeDepth := 6) [results, Tryd.results23, go_sem, *]) rfl ⟨rfl, AA⟩
end Go.Proofs.YtpjaekofibpgnaaDoor
