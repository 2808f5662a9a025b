/- The contract of impl.lowest; when a fraction can be. -/
import Derived.Test.YtpjaekofibpgnaaDoorF120
import Derived.Test.YtpjaekofibpgnaaDoorF122
import Derived.Deep.RegionHeld3
import Derived.WalkKit
import Derived.WalkSpells
import Derived.WalkLawsBesides
import Derived.Deep.RegionHeld
namespace Go.Proofs.YtpjaekofibpgnaaDoor
open Go.RowKit
set_option linter.unusedVariables false
theorem keepG {w : World} {g j k : Nat} {x u : Value} (h : w.cell? ⟨g, 0, none⟩ = some x) (hj : g ≠ j) : (w.setCell ⟨j, k, none⟩ u).cell? ⟨g, 0, none⟩ = some x := by
  rw [World.cell?_of_block (w := w) (Below.heap_setCell _ _ _ _ hj)]
  exact h
/- The error beside a fraction: none, or the one that says that there is none. -/
def nfV (a : Addr) (b : Bool) : Value := match b with | true => .nilIface | false => .iface 94 (.pointer (some a))
theorem is_nf (a : Addr) (b : Bool) (w : World) : Calls Tryd.prog 38 #[nfV a b, .iface 94 (.pointer (some a))] w fun e w' => e = .returned (.bool (!b)) ∧ w = w' := by
  cases b
  · exact (is_same a w).mono fun e w' ⟨he, hw⟩ => ⟨he, hw.symm⟩
  · exact (is_nil a w).mono fun e w' ⟨he, hw⟩ => ⟨he, hw.symm⟩
set_option maxRecDepth 100000 in
set_option maxHeartbeats 4000000 in
theorem lowest_any (x y : Int) (a : Addr) (w : World) (E : Er w 0 a) : Calls Tryd.prog 37 #[.int .i64 x, .int .i64 y] w fun e w' => e = .returned (.tuple #[.agg #[.int .i64 (foX x y), .int .i64 (foY x y)], (nfV a (foB x y))]) ∧ Below w.heap.size w w' := by
  have A := Below.nw w (.cells #[.int .i64 0, .int .i64 0] 27)
  have N := Bx2.new w (.int .i64 0) (.int .i64 0) 27
  have k0 := (E.alloc (.cells #[.int .i64 0, .int .i64 0] 27)).1
  have hg : 0 ≠ w.heap.size := Nat.ne_of_lt E.2.1
  clear E
  by_cases h0 : y = 0
  · have e : foB x y = false := by rw [foB, h0]; rfl
    rw [(fo_f e).1, (fo_f e).2, e]
    clear e
    have h0' : (y == 0) = true := by simp [h0]
    show Calls Tryd.prog 37 #[.int .i64 x, .int .i64 y] w fun e w' => e = .returned (.tuple #[.agg #[.int .i64 0, .int .i64 0], (.iface 94 (.pointer (some a)))]) ∧ Below w.heap.size w w'
    go_enter Tryd.func37, Tryd.ntmps37
    go_upto_region 1 with fail
    generalize w.alloc (.cells #[.int .i64 0, .int .i64 0] 27) = v at *
    have NN := (N.set0 (.int .i64 0)).set1 (.int .i64 0)
    have AA := ((Below.drew A).setCell (p := ⟨w.heap.size, 0, none⟩) (Nat.le_refl _) (.int .i64 0)).setCell (p := ⟨w.heap.size, 1, none⟩) (Nat.le_refl _) (.int .i64 0)
    obtain ⟨n0, n1, n2, n3, n4⟩ := id N
    subst h0
    go_wp2_with fail

    refine wp_region_held_drew (S := (fun w' => w'.cell? ⟨0, 0, none⟩ = some (.iface 94 (.pointer (some a))))) (by kernel_rfl) ?_ (fun hHeld => ?_)
    · first | exact k0 | exact keepG (keepG k0 hg) hg
    refine wpAnyH_take (i := 0) (v := ?_) (by rw [List.getElem?_toArray]; rfl) (by kernel_rfl) (by kernel_rfl) (by kernel_rfl) (by intro _ _ _ h; exact h) (Or.inl ⟨by rfl, ?_⟩) (by assumption) ?_
    rotate_left
    · (intro w hSw; (try dsimp only at hSw); go_simp; all_goals with_reducible rfl)
    (try simp only [Act.put, List.setIfInBounds_toArray, List.set_cons_zero, List.set_cons_succ])
    refine wpAnyH_take (i := 1) (v := ?_) (by rw [List.getElem?_toArray]; rfl) (by kernel_rfl) (by kernel_rfl) (by kernel_rfl) (by intro _ _ _ h; exact h) (Or.inl ⟨by rfl, ?_⟩) (by assumption) ?_
    rotate_left
    · (intro w hSw; (try dsimp only at hSw); go_simp; all_goals with_reducible rfl)
    (try simp only [Act.put, List.setIfInBounds_toArray, List.set_cons_zero, List.set_cons_succ])
    refine wpAnyH_ready (rs := [2]) (by kernel_rfl) (by simp) ?_
    refine AllReadyH.cons (by rw [List.getElem?_toArray]; rfl) (fun K hK => ?_) AllReadyH.nil
    go_simp
    refine hK.out _ _ ?_ (fun hHeld => ?_)
    · first | exact k0 | exact keepG (keepG k0 hg) hg
    clear hK K
    (try simp only [Act.put, List.setIfInBounds_toArray, List.set_cons_zero, List.set_cons_succ])
    refine wpAnyH_take (i := 3) (v := ?_) (by rw [List.getElem?_toArray]; rfl) (by kernel_rfl) (by kernel_rfl) (by kernel_rfl) (by intro _ _ _ h; exact h) (Or.inl ⟨by rfl, ?_⟩) (by assumption) ?_
    rotate_left
    · (intro w hSw; (try dsimp only at hSw); go_simp; all_goals with_reducible rfl)
    (try simp only [Act.put, List.setIfInBounds_toArray, List.set_cons_zero, List.set_cons_succ])
    refine wpAnyH_done (by kernel_rfl) ?_ _
    go_wp2_with fail
    exact bodyPost_ret (v := (.tuple #[.agg #[.int .i64 0, .int .i64 0], (.iface 94 (.pointer (some a)))])) (by simp (maxDischargeDepth := 6) [results, Tryd.results37, go_sem, *]) rfl ⟨rfl, AA⟩
  have h0' : (y == 0) = false := beq_eq_false_iff_ne.2 h0
  cases h1 : szF x
  · have e : foB x y = false := by rw [foB, h1]; simp
    rw [(fo_f e).1, (fo_f e).2, e]
    clear e
    show Calls Tryd.prog 37 #[.int .i64 x, .int .i64 y] w fun e w' => e = .returned (.tuple #[.agg #[.int .i64 0, .int .i64 0], (.iface 94 (.pointer (some a)))]) ∧ Below w.heap.size w w'
    go_enter Tryd.func37, Tryd.ntmps37
    go_upto_region 1 with fail
    generalize w.alloc (.cells #[.int .i64 0, .int .i64 0] 27) = v at *
    have NN := (N.set0 (.int .i64 0)).set1 (.int .i64 0)
    have AA := ((Below.drew A).setCell (p := ⟨w.heap.size, 0, none⟩) (Nat.le_refl _) (.int .i64 0)).setCell (p := ⟨w.heap.size, 1, none⟩) (Nat.le_refl _) (.int .i64 0)
    obtain ⟨n0, n1, n2, n3, n4⟩ := id N
    go_wp2_with fail
    refine (isPart_any _ _).mono ?_
    rintro e w' ⟨rfl, rfl⟩
    rw [h1]
    go_wp2_with fail

    refine wp_region_held_drew (S := (fun w' => w'.cell? ⟨0, 0, none⟩ = some (.iface 94 (.pointer (some a))))) (by kernel_rfl) ?_ (fun hHeld => ?_)
    · first | exact k0 | exact keepG (keepG k0 hg) hg
    refine wpAnyH_take (i := 0) (v := ?_) (by rw [List.getElem?_toArray]; rfl) (by kernel_rfl) (by kernel_rfl) (by kernel_rfl) (by intro _ _ _ h; exact h) (Or.inl ⟨by rfl, ?_⟩) (by assumption) ?_
    rotate_left
    · (intro w hSw; (try dsimp only at hSw); go_simp; all_goals with_reducible rfl)
    (try simp only [Act.put, List.setIfInBounds_toArray, List.set_cons_zero, List.set_cons_succ])
    refine wpAnyH_take (i := 1) (v := ?_) (by rw [List.getElem?_toArray]; rfl) (by kernel_rfl) (by kernel_rfl) (by kernel_rfl) (by intro _ _ _ h; exact h) (Or.inl ⟨by rfl, ?_⟩) (by assumption) ?_
    rotate_left
    · (intro w hSw; (try dsimp only at hSw); go_simp; all_goals with_reducible rfl)
    (try simp only [Act.put, List.setIfInBounds_toArray, List.set_cons_zero, List.set_cons_succ])
    refine wpAnyH_ready (rs := [2]) (by kernel_rfl) (by simp) ?_
    refine AllReadyH.cons (by rw [List.getElem?_toArray]; rfl) (fun K hK => ?_) AllReadyH.nil
    go_simp
    refine hK.out _ _ ?_ (fun hHeld => ?_)
    · first | exact k0 | exact keepG (keepG k0 hg) hg
    clear hK K
    (try simp only [Act.put, List.setIfInBounds_toArray, List.set_cons_zero, List.set_cons_succ])
    refine wpAnyH_take (i := 3) (v := ?_) (by rw [List.getElem?_toArray]; rfl) (by kernel_rfl) (by kernel_rfl) (by kernel_rfl) (by intro _ _ _ h; exact h) (Or.inl ⟨by rfl, ?_⟩) (by assumption) ?_
    rotate_left
    · (intro w hSw; (try dsimp only at hSw); go_simp; all_goals with_reducible rfl)
    (try simp only [Act.put, List.setIfInBounds_toArray, List.set_cons_zero, List.set_cons_succ])
    refine wpAnyH_done (by kernel_rfl) ?_ _
    go_wp2_with fail
    exact bodyPost_ret (v := (.tuple #[.agg #[.int .i64 0, .int .i64 0], (.iface 94 (.pointer (some a)))])) (by simp (maxDischargeDepth := 6) [results, Tryd.results37, go_sem, *]) rfl ⟨rfl, AA⟩
  cases h2 : szF y
  · have e : foB x y = false := by rw [foB, h2]; simp
    rw [(fo_f e).1, (fo_f e).2, e]
    clear e
    show Calls Tryd.prog 37 #[.int .i64 x, .int .i64 y] w fun e w' => e = .returned (.tuple #[.agg #[.int .i64 0, .int .i64 0], (.iface 94 (.pointer (some a)))]) ∧ Below w.heap.size w w'
    go_enter Tryd.func37, Tryd.ntmps37
    go_upto_region 1 with fail
    generalize w.alloc (.cells #[.int .i64 0, .int .i64 0] 27) = v at *
    have NN := (N.set0 (.int .i64 0)).set1 (.int .i64 0)
    have AA := ((Below.drew A).setCell (p := ⟨w.heap.size, 0, none⟩) (Nat.le_refl _) (.int .i64 0)).setCell (p := ⟨w.heap.size, 1, none⟩) (Nat.le_refl _) (.int .i64 0)
    obtain ⟨n0, n1, n2, n3, n4⟩ := id N
    go_wp2_with fail
    refine (isPart_any _ _).mono ?_
    rintro e w' ⟨rfl, rfl⟩
    rw [h1]
    go_wp2_with fail
    refine (isPart_any _ _).mono ?_
    rintro e w' ⟨rfl, rfl⟩
    rw [h2]
    go_wp2_with fail

    refine wp_region_held_drew (S := (fun w' => w'.cell? ⟨0, 0, none⟩ = some (.iface 94 (.pointer (some a))))) (by kernel_rfl) ?_ (fun hHeld => ?_)
    · first | exact k0 | exact keepG (keepG k0 hg) hg
    refine wpAnyH_take (i := 0) (v := ?_) (by rw [List.getElem?_toArray]; rfl) (by kernel_rfl) (by kernel_rfl) (by kernel_rfl) (by intro _ _ _ h; exact h) (Or.inl ⟨by rfl, ?_⟩) (by assumption) ?_
    rotate_left
    · (intro w hSw; (try dsimp only at hSw); go_simp; all_goals with_reducible rfl)
    (try simp only [Act.put, List.setIfInBounds_toArray, List.set_cons_zero, List.set_cons_succ])
    refine wpAnyH_take (i := 1) (v := ?_) (by rw [List.getElem?_toArray]; rfl) (by kernel_rfl) (by kernel_rfl) (by kernel_rfl) (by intro _ _ _ h; exact h) (Or.inl ⟨by rfl, ?_⟩) (by assumption) ?_
    rotate_left
    · (intro w hSw; (try dsimp only at hSw); go_simp; all_goals with_reducible rfl)
    (try simp only [Act.put, List.setIfInBounds_toArray, List.set_cons_zero, List.set_cons_succ])
    refine wpAnyH_ready (rs := [2]) (by kernel_rfl) (by simp) ?_
    refine AllReadyH.cons (by rw [List.getElem?_toArray]; rfl) (fun K hK => ?_) AllReadyH.nil
    go_simp
    refine hK.out _ _ ?_ (fun hHeld => ?_)
    · first | exact k0 | exact keepG (keepG k0 hg) hg
    clear hK K
    (try simp only [Act.put, List.setIfInBounds_toArray, List.set_cons_zero, List.set_cons_succ])
    refine wpAnyH_take (i := 3) (v := ?_) (by rw [List.getElem?_toArray]; rfl) (by kernel_rfl) (by kernel_rfl) (by kernel_rfl) (by intro _ _ _ h; exact h) (Or.inl ⟨by rfl, ?_⟩) (by assumption) ?_
    rotate_left
    · (intro w hSw; (try dsimp only at hSw); go_simp; all_goals with_reducible rfl)
    (try simp only [Act.put, List.setIfInBounds_toArray, List.set_cons_zero, List.set_cons_succ])
    refine wpAnyH_done (by kernel_rfl) ?_ _
    go_wp2_with fail
    exact bodyPost_ret (v := (.tuple #[.agg #[.int .i64 0, .int .i64 0], (.iface 94 (.pointer (some a)))])) (by simp (maxDischargeDepth := 6) [results, Tryd.results37, go_sem, *]) rfl ⟨rfl, AA⟩
  have e : foB x y = true := by rw [foB, h1, h2, h0']; rfl
  rw [(fo_t e).1, (fo_t e).2, e]
  clear e k0 hg
  show Calls Tryd.prog 37 #[.int .i64 x, .int .i64 y] w fun e w' => e = .returned (.tuple #[.agg #[.int .i64 (foN x y), .int .i64 (foD x y)], .nilIface]) ∧ Below w.heap.size w w'
  have CG := fun w' => inCommon_any x y w' (szF_t h1) (szF_t h2)
  have hgn := foG_ne (x := x) h0
  have hgi : -4000000000000 ≤ foG x y ∧ foG x y ≤ 4000000000000 := by
    have := gcd_in (x := x) (szF_t h2) h0
    unfold foG
    split <;> omega
  have b1 := td_in (g := foG x y) (szF_t h1)
  have b2 := td_in (g := foG x y) (szF_t h2)
  unfold foN foD
  generalize foG x y = gg at *
  have hgz : ¬ gg = 0 := hgn
  have hgz' : (gg == 0) = false := beq_eq_false_iff_ne.2 hgz
  have hw1 : IntKind.i64.wrap (x.tdiv gg) = x.tdiv gg := Go.IntWalk.i64_in _ ⟨by omega, by omega⟩
  have hw2 : IntKind.i64.wrap (y.tdiv gg) = y.tdiv gg := Go.IntWalk.i64_in _ ⟨by omega, by omega⟩
  clear hgn
  go_enter Tryd.func37, Tryd.ntmps37
  go_upto_region 1 with fail
  generalize w.alloc (.cells #[.int .i64 0, .int .i64 0] 27) = v at *
  go_wp2_with fail
  refine (isPart_any _ _).mono ?_
  rintro e w' ⟨rfl, rfl⟩
  rw [h1]
  go_wp2_with fail
  refine (isPart_any _ _).mono ?_
  rintro e w' ⟨rfl, rfl⟩
  rw [h2]
  go_wp2_with fail
  refine (CG _).mono ?_
  rintro e v2 ⟨rfl, hb⟩
  replace N := N.below hb
  replace A := A.trans (hb.mono A.size)
  clear hb
  have NN := (N.set0 (.int .i64 (x.tdiv gg))).set1 (.int .i64 (y.tdiv gg))
  have AA := ((Below.drew A).setCell (p := ⟨w.heap.size, 0, none⟩) (Nat.le_refl _) (.int .i64 (x.tdiv gg))).setCell (p := ⟨w.heap.size, 1, none⟩) (Nat.le_refl _) (.int .i64 (y.tdiv gg))
  obtain ⟨n0, n1, n2, n3, n4⟩ := id N
  go_upto_region 4 with fail

  refine wp_region_held_drew (S := (fun _ => True)) (by kernel_rfl) ?_ (fun hHeld => ?_)
  · trivial
  refine wpAnyH_take (i := 0) (v := ?_) (by rw [List.getElem?_toArray]; rfl) (by kernel_rfl) (by kernel_rfl) (by kernel_rfl) (by intro _ _ _ h; exact h) (Or.inl ⟨by rfl, ?_⟩) (by assumption) ?_
  rotate_left
  · (intro w hSw; (try dsimp only at hSw); go_simp; all_goals with_reducible rfl)
  (try simp only [Act.put, List.setIfInBounds_toArray, List.set_cons_zero, List.set_cons_succ])
  refine wpAnyH_take (i := 1) (v := ?_) (by rw [List.getElem?_toArray]; rfl) (by kernel_rfl) (by kernel_rfl) (by kernel_rfl) (by intro _ _ _ h; exact h) (Or.inl ⟨by rfl, ?_⟩) (by assumption) ?_
  rotate_left
  · (intro w hSw; (try dsimp only at hSw); go_simp; all_goals with_reducible rfl)
  (try simp only [Act.put, List.setIfInBounds_toArray, List.set_cons_zero, List.set_cons_succ])
  refine wpAnyH_take (i := 2) (v := ?_) (by rw [List.getElem?_toArray]; rfl) (by kernel_rfl) (by kernel_rfl) (by kernel_rfl) (by intro _ _ _ h; exact h) (Or.inl ⟨by rfl, ?_⟩) (by assumption) ?_
  rotate_left
  · (intro w hSw; (try dsimp only at hSw); go_simp; all_goals with_reducible rfl)
  (try simp only [Act.put, List.setIfInBounds_toArray, List.set_cons_zero, List.set_cons_succ])
  refine wpAnyH_take (i := 3) (v := ?_) (by rw [List.getElem?_toArray]; rfl) (by kernel_rfl) (by kernel_rfl) (by kernel_rfl) (by intro _ _ _ h; exact h) (Or.inl ⟨by rfl, ?_⟩) (by assumption) ?_
  rotate_left
  · (intro w hSw; (try dsimp only at hSw); go_simp; all_goals with_reducible rfl)
  (try simp only [Act.put, List.setIfInBounds_toArray, List.set_cons_zero, List.set_cons_succ])
  refine wpAnyH_take (i := 4) (v := ?_) (by rw [List.getElem?_toArray]; rfl) (by kernel_rfl) (by kernel_rfl) (by kernel_rfl) (by intro _ _ _ h; exact h) (Or.inl ⟨by rfl, ?_⟩) (by assumption) ?_
  rotate_left
  · (intro w hSw; (try dsimp only at hSw); go_simp; all_goals with_reducible rfl)
  (try simp only [Act.put, List.setIfInBounds_toArray, List.set_cons_zero, List.set_cons_succ])
  refine wpAnyH_take (i := 5) (v := ?_) (by rw [List.getElem?_toArray]; rfl) (by kernel_rfl) (by kernel_rfl) (by kernel_rfl) (by intro _ _ _ h; exact h) (Or.inl ⟨by rfl, ?_⟩) (by assumption) ?_
  rotate_left
  · (intro w hSw; (try dsimp only at hSw); go_simp; all_goals with_reducible rfl)
  (try simp only [Act.put, List.setIfInBounds_toArray, List.set_cons_zero, List.set_cons_succ])
  refine wpAnyH_take (i := 6) (v := ?_) (by rw [List.getElem?_toArray]; rfl) (by kernel_rfl) (by kernel_rfl) (by kernel_rfl) (by intro _ _ _ h; exact h) (Or.inl ⟨by rfl, ?_⟩) (by assumption) ?_
  rotate_left
  · (intro w hSw; (try dsimp only at hSw); go_simp; all_goals with_reducible rfl)
  (try simp only [Act.put, List.setIfInBounds_toArray, List.set_cons_zero, List.set_cons_succ])
  refine wpAnyH_ready (rs := [7]) (by kernel_rfl) (by simp) ?_
  refine AllReadyH.cons (by rw [List.getElem?_toArray]; rfl) (fun K hK => ?_) AllReadyH.nil
  go_simp
  refine hK.out _ _ ?_ (fun hHeld => ?_)
  · trivial
  clear hK K
  (try simp only [Act.put, List.setIfInBounds_toArray, List.set_cons_zero, List.set_cons_succ])
  refine wpAnyH_take (i := 8) (v := ?_) (by rw [List.getElem?_toArray]; rfl) (by kernel_rfl) (by kernel_rfl) (by kernel_rfl) (by intro _ _ _ h; exact h) (Or.inl ⟨by rfl, ?_⟩) (by assumption) ?_
  rotate_left
  · (intro w hSw; (try dsimp only at hSw); go_simp; all_goals with_reducible rfl)
  (try simp only [Act.put, List.setIfInBounds_toArray, List.set_cons_zero, List.set_cons_succ])
  refine wpAnyH_done (by kernel_rfl) ?_ _
  go_wp2_with fail
  exact bodyPost_ret (v := (.tuple #[.agg #[.int .i64 (x.tdiv gg), .int .i64 (y.tdiv gg)], .nilIface])) (by simp (maxDischargeDepth := 6) [results, Tryd.results37, go_sem, *]) rfl ⟨rfl, AA⟩
/- A fraction is in lowest terms just if it comes out as itself. -/
theorem ok_fo (x y : Int) : okF x y = (foB x y && (foX x y == x && foY x y == y)) := by
  cases hB : foB x y
  · rw [Bool.false_and]
    cases hx : szF x
    · rw [okF, hx]; rfl
    · cases hy : dnF y
      · rw [okF, hx, hy]; rfl
      · exfalso
        have h1 := dnF_t hy
        have h2 : szF y = true := decide_eq_true ⟨by omega, by omega⟩
        have h3 : (y == 0) = false := beq_eq_false_iff_ne.2 (by omega)
        rw [foB, hx, h2, h3] at hB
        cases hB
  · rw [Bool.true_and, (fo_t hB).1, (fo_t hB).2]
    have hB' := hB
    unfold foB at hB'
    simp only [Bool.and_eq_true, Bool.not_eq_true', beq_eq_false_iff_ne] at hB'
    obtain ⟨⟨h0, hx⟩, hy⟩ := hB'
    have hp := fo_pos (x := x) h0
    obtain ⟨q1, q2⟩ := fo_exact (x := x) (y := y)
    by_cases hn : y < 0
    · have e1 : okF x y = false := by
        have : dnF y = false := decide_eq_false fun h => by omega
        rw [okF, this, Bool.and_false, Bool.false_and]
      have e2 : (foD x y == y) = false := beq_eq_false_iff_ne.2 (by omega)
      rw [e1, e2, Bool.and_false]
    · have hyb := szF_t hy
      have hd : dnF y = true := decide_eq_true ⟨by omega, by omega⟩
      rw [okF, hx, hd]
      have eg : foG x y = (Int.gcd x y : Int) := if_neg hn
      by_cases h1 : (Int.gcd x y : Int) = 1
      · rw [eg, h1, Int.mul_one] at q1 q2
        rw [h1, q1, q2]
        simp
      · have e3 : ((Int.gcd x y : Int) == 1) = false := beq_eq_false_iff_ne.2 h1
        have e4 : (foD x y == y) = false := by
          refine beq_eq_false_iff_ne.2 fun h => h1 ?_
          rw [h, eg] at q2
          have : y * (Int.gcd x y : Int) = y * 1 := by rw [q2, Int.mul_one]
          exact Int.eq_of_mul_eq_mul_left h0 this
        rw [e3, e4]
        simp
end Go.Proofs.YtpjaekofibpgnaaDoor
