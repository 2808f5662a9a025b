/- What the draw of an oscillator and strides leaves. -/
import Derived.Test.YtlfbbdeoejafkaaV2
import Derived.WalkKit
import Derived.WalkSpells
import Derived.WalkLawsBesides
import Derived.Deep.RegionHeld
import Derived.Deep.RegionHeld3
namespace Go.Proofs.Ytlfbbdeoejafkaa
open Go.RowKit
set_option linter.unusedVariables false
theorem But.undrewA {p : Nat} {a w : World} (h : But p a.drew w) : But p a w := h
theorem Below.undrewA {B : Nat} {a w : World} (h : Below B a.drew w) : Below B a w := ⟨h.os, h.tape, h.output, h.size, h.block⟩
set_option maxHeartbeats 4000000 in
theorem DrawOscRun_any (a : Option Addr) (n0 c0 : Nat) (w : World) (hn : n0 ≤ 1048576) (hcode : CodeB w w.heap.size a n0) :
    Calls Try.prog 7 #[.slice a n0 c0] w fun e w' => ∃ x y t u : Int, ∃ v : Value, ∃ L : List (Int × Int), e = .returned (.tuple #[.agg #[.int .i64 x, .int .i64 y, .int .i64 t, .int .i64 u], v]) ∧ w'.ownsRow (w.heap.size + 1) 67 2 v L.length (prs L) ∧ L.length ≤ 1000 ∧ Below w.heap.size w w' := by
  have A0 := Below.alc w (.cells #[.int .i64 0, .int .i64 0, .int .i64 0, .int .i64 0] 27)
  have R0 := Box4.new w 0 0 0 0 27
  have HC : Hid (CodeB (w.alloc (.cells #[.int .i64 0, .int .i64 0, .int .i64 0, .int .i64 0] 27)) (w.alloc (.cells #[.int .i64 0, .int .i64 0, .int .i64 0, .int .i64 0] 27)).heap.size a n0) := (hcode.below A0).more (by simp)
  clear hcode
  go_enter Try.func7, Try.ntmps7
  go_wp2_with fail
  refine (l1New_any a n0 c0 _ hn HC.out).mono ?_
  rintro e w1 ⟨p, rfl, w1c, w1b⟩
  have b1 := A0.trans (w1b.mono A0.size)
  have R1 := R0.below w1b
  have q1 := w1c.lt
  simp only [World.size_alloc] at q1
  have hpw : w.heap.size ≠ p := by omega
  clear HC R0 A0 w1b
  generalize (w.alloc (.cells #[.int .i64 0, .int .i64 0, .int .i64 0, .int .i64 0] 27)).heap.size = B at *
  go_wp2_with fail
  refine (l3DrawOsc_any B p _ w1c).mono ?_
  rintro e w2 ⟨x, y, t, u, rfl, w2c, w2b⟩
  have b2 : Below w.heap.size w w2 := b1.trans (w2b.below (by omega) b1.size)
  have R2 := R1.but w2b hpw
  have A2 := Below.alc w2 (.cells #[.int .i64 x, .int .i64 y, .int .i64 t, .int .i64 u] 27)
  have N2 := Box4.new w2 x y t u 27
  have q2 := w2c.lt
  have hk : w2.heap.size ≠ p := by omega
  have b2' := b2.trans (A2.mono b2.size)
  have R2' := R2.below A2
  have w2c' := w2c.below A2
  have hwk : w.heap.size < w2.heap.size := R2.1
  clear b1 R1 w1c w2b b2 R2 w2c A2
  go_wp2_with fail
  generalize w2.heap.size = k at *
  generalize w2.alloc (.cells #[.int .i64 x, .int .i64 y, .int .i64 t, .int .i64 u] 27) = v2 at *
  refine (l1Size_m _ _ _ _ _ hn (by omega) (by omega)).mono ?_
  rintro e w' ⟨s, rfl, s0, s1, rfl⟩
  go_wp2_with fail
  refine (l1Below_any B p _ _ w2c').mono ?_
  rintro e w3 ⟨m, rfl, ml, mh, mp, mz, w3c, w3b⟩
  have hm1 : m ≤ 20 := by
    by_cases h : 0 < s
    · have := mp h; omega
    · have := mz (by omega); omega
  have b3 := b2'.trans (w3b.below (by omega) b2'.size)
  have R3 := R2'.but w3b hpw
  have N3 := N2.but w3b hk
  clear b2' R2' N2 w2c' w3b mp mz
  go_wp2_with fail
  refine (l1Once_any B p 25 _ w3c).mono ?_
  rintro e w4 ⟨o1, rfl, w4c, w4b⟩
  have b4 := b3.trans (w4b.below (by omega) b3.size)
  have R4 := R3.but w4b hpw
  have N4 := N3.but w4b hk
  clear b3 R3 N3 w3c w4b
  cases o1
  · obtain ⟨m1, m2, m3, m4, m5, m6, m7, m8, m9⟩ := id N4
    have hw4 : w.heap.size + 1 ≤ w4.heap.size := R4.1
    go_wp2_with fail
    refine wp_region_held_drew (S := (fun w' => w'.cell? ⟨k, 0, none⟩ = some (.int .i64 x) ∧ w'.cell? ⟨k, 1, none⟩ = some (.int .i64 y) ∧ w'.cell? ⟨k, 2, none⟩ = some (.int .i64 t) ∧ w'.cell? ⟨k, 3, none⟩ = some (.int .i64 u))) (by kernel_rfl) ?_ (fun hHeld => ?_)
    · simp (maxDischargeDepth := 6) [go_sem, *]
    refine wpAnyH_take (i := 0) (v := ?_) (by rw [List.getElem?_toArray]; rfl) (by kernel_rfl) (by kernel_rfl) (by kernel_rfl) (by intro _ _ _ h; exact h) (Or.inl ⟨by rfl, ?_⟩) (by assumption) ?_
    rotate_left
    · (intro w hSw; (try dsimp only at hSw); go_simp; all_goals with_reducible rfl)
    (try simp only [Act.put, List.setIfInBounds_toArray, List.set_cons_zero, List.set_cons_succ])
    refine wpAnyH_take (i := 1) (v := ?_) (by rw [List.getElem?_toArray]; rfl) (by kernel_rfl) (by kernel_rfl) (by kernel_rfl) (by intro _ _ _ h; exact h) (Or.inl ⟨by rfl, ?_⟩) (by assumption) ?_
    rotate_left
    · (intro w hSw; (try dsimp only at hSw); go_simp; all_goals with_reducible rfl)
    (try simp only [Act.put, List.setIfInBounds_toArray, List.set_cons_zero, List.set_cons_succ])
    refine wpAnyH_take (i := 2) (v := ?_) (by rw [List.getElem?_toArray]; rfl) (by kernel_rfl) (by kernel_rfl) (by kernel_rfl) (by intro _ _ _ h; exact h) (Or.inl ⟨by rfl, ?_⟩) (by assumption) ?_
    rotate_left
    · (intro w hSw; (try dsimp only at hSw); go_simp; all_goals with_reducible rfl)
    (try simp only [Act.put, List.setIfInBounds_toArray, List.set_cons_zero, List.set_cons_succ])
    refine wpAnyH_ready (rs := [3]) (by kernel_rfl) (by simp) ?_
    refine AllReadyH.cons (by rw [List.getElem?_toArray]; rfl) (fun K hK => ?_) AllReadyH.nil
    go_simp
    refine (l3DrawStrides_any B p _ _ (by first | exact w4c | exact CurOk.drew w4c) (by omega)).mono ?_; rintro e w5 ⟨v, L, rfl, O, hL, w5c, w5b⟩; (first | replace w5b := But.undrewA w5b | skip); (have b5 := b4.trans (w5b.below (by omega) b4.size)); (have R5 := R4.but w5b hpw); (have N5 := N4.but w5b hk); clear m1 m2 m3 m4 m5 m6 m7 m8 m9; obtain ⟨m1, m2, m3, m4, m5, m6, m7, m8, m9⟩ := id N5; obtain ⟨g1, g2, g3, g4, g5, g6, g7, g8, g9⟩ := id R5; (have O2 := own_base O (show w.heap.size + 1 ≤ _ from hw4)); clear O
    (try go_wp2_with fail)
    refine hK.out _ _ ?_ (fun hHeld => ?_)
    · simp (maxDischargeDepth := 6) [go_sem, *]
    clear hK K
    (try simp only [Act.put, List.setIfInBounds_toArray, List.set_cons_zero, List.set_cons_succ])
    refine wpAnyH_ready (rs := [4]) (by kernel_rfl) (by simp) ?_
    refine AllReadyH.cons (by rw [List.getElem?_toArray]; rfl) (fun K hK => ?_) AllReadyH.nil
    go_simp
    refine hK.out _ _ ?_ (fun hHeld => ?_)
    · simp (maxDischargeDepth := 6) [go_sem, *]
    clear hK K
    (try simp only [Act.put, List.setIfInBounds_toArray, List.set_cons_zero, List.set_cons_succ])
    refine wpAnyH_take (i := 5) (v := ?_) (by rw [List.getElem?_toArray]; rfl) (by kernel_rfl) (by kernel_rfl) (by kernel_rfl) (by intro _ _ _ h; exact h) (Or.inl ⟨by rfl, ?_⟩) (by assumption) ?_
    rotate_left
    · (intro w hSw; (try dsimp only at hSw); go_simp; all_goals with_reducible rfl)
    (try simp only [Act.put, List.setIfInBounds_toArray, List.set_cons_zero, List.set_cons_succ])
    refine wpAnyH_done (by kernel_rfl) ?_ _
    go_wp2_with fail
    exact bodyPost_ret (v := .tuple #[.agg #[.int .i64 x, .int .i64 y, .int .i64 t, .int .i64 u], v]) (by simp (maxDischargeDepth := 6) [results, Try.results7, go_sem, *]) rfl ⟨x, y, t, u, v, L, rfl, own_set4 O2 (Nat.lt_succ_self _) x y t u, hL, Below.set4 b5 (Nat.le_refl _) x y t u⟩
  · go_wp2_with fail
    refine (l1Below_any B p 2 _ w4c).mono ?_
    rintro e w5 ⟨m', rfl, ml', mh', mp', mz', w5c, w5b⟩
    have hm2 := mp' (by omega)
    have b5 := b4.trans (w5b.below (by omega) b4.size)
    have R5 := R4.but w5b hpw
    have N5 := N4.but w5b hk
    clear b4 R4 N4 w4c w5b mp' mz'
    obtain ⟨m1, m2, m3, m4, m5, m6, m7, m8, m9⟩ := id N5
    have hw5 : w.heap.size + 1 ≤ w5.heap.size := R5.1
    go_wp2_with fail
    refine wp_region_held_drew (S := (fun w' => w'.cell? ⟨k, 0, none⟩ = some (.int .i64 x) ∧ w'.cell? ⟨k, 1, none⟩ = some (.int .i64 y) ∧ w'.cell? ⟨k, 2, none⟩ = some (.int .i64 t) ∧ w'.cell? ⟨k, 3, none⟩ = some (.int .i64 u))) (by kernel_rfl) ?_ (fun hHeld => ?_)
    · simp (maxDischargeDepth := 6) [go_sem, *]
    refine wpAnyH_take (i := 0) (v := ?_) (by rw [List.getElem?_toArray]; rfl) (by kernel_rfl) (by kernel_rfl) (by kernel_rfl) (by intro _ _ _ h; exact h) (Or.inl ⟨by rfl, ?_⟩) (by assumption) ?_
    rotate_left
    · (intro w hSw; (try dsimp only at hSw); go_simp; all_goals with_reducible rfl)
    (try simp only [Act.put, List.setIfInBounds_toArray, List.set_cons_zero, List.set_cons_succ])
    refine wpAnyH_take (i := 1) (v := ?_) (by rw [List.getElem?_toArray]; rfl) (by kernel_rfl) (by kernel_rfl) (by kernel_rfl) (by intro _ _ _ h; exact h) (Or.inl ⟨by rfl, ?_⟩) (by assumption) ?_
    rotate_left
    · (intro w hSw; (try dsimp only at hSw); go_simp; all_goals with_reducible rfl)
    (try simp only [Act.put, List.setIfInBounds_toArray, List.set_cons_zero, List.set_cons_succ])
    refine wpAnyH_take (i := 2) (v := ?_) (by rw [List.getElem?_toArray]; rfl) (by kernel_rfl) (by kernel_rfl) (by kernel_rfl) (by intro _ _ _ h; exact h) (Or.inl ⟨by rfl, ?_⟩) (by assumption) ?_
    rotate_left
    · (intro w hSw; (try dsimp only at hSw); go_simp; all_goals with_reducible rfl)
    (try simp only [Act.put, List.setIfInBounds_toArray, List.set_cons_zero, List.set_cons_succ])
    refine wpAnyH_ready (rs := [3]) (by kernel_rfl) (by simp) ?_
    refine AllReadyH.cons (by rw [List.getElem?_toArray]; rfl) (fun K hK => ?_) AllReadyH.nil
    go_simp
    refine (l3DrawStrides_any B p _ _ (by first | exact w5c | exact CurOk.drew w5c) (by omega)).mono ?_; rintro e w6 ⟨v, L, rfl, O, hL, w6c, w6b⟩; (first | replace w6b := But.undrewA w6b | skip); (have b6 := b5.trans (w6b.below (by omega) b5.size)); (have R6 := R5.but w6b hpw); (have N6 := N5.but w6b hk); clear m1 m2 m3 m4 m5 m6 m7 m8 m9; obtain ⟨m1, m2, m3, m4, m5, m6, m7, m8, m9⟩ := id N6; obtain ⟨g1, g2, g3, g4, g5, g6, g7, g8, g9⟩ := id R6; (have O2 := own_base O (show w.heap.size + 1 ≤ _ from hw5)); clear O
    (try go_wp2_with fail)
    refine hK.out _ _ ?_ (fun hHeld => ?_)
    · simp (maxDischargeDepth := 6) [go_sem, *]
    clear hK K
    (try simp only [Act.put, List.setIfInBounds_toArray, List.set_cons_zero, List.set_cons_succ])
    refine wpAnyH_ready (rs := [4]) (by kernel_rfl) (by simp) ?_
    refine AllReadyH.cons (by rw [List.getElem?_toArray]; rfl) (fun K hK => ?_) AllReadyH.nil
    go_simp
    refine hK.out _ _ ?_ (fun hHeld => ?_)
    · simp (maxDischargeDepth := 6) [go_sem, *]
    clear hK K
    (try simp only [Act.put, List.setIfInBounds_toArray, List.set_cons_zero, List.set_cons_succ])
    refine wpAnyH_take (i := 5) (v := ?_) (by rw [List.getElem?_toArray]; rfl) (by kernel_rfl) (by kernel_rfl) (by kernel_rfl) (by intro _ _ _ h; exact h) (Or.inl ⟨by rfl, ?_⟩) (by assumption) ?_
    rotate_left
    · (intro w hSw; (try dsimp only at hSw); go_simp; all_goals with_reducible rfl)
    (try simp only [Act.put, List.setIfInBounds_toArray, List.set_cons_zero, List.set_cons_succ])
    refine wpAnyH_done (by kernel_rfl) ?_ _
    go_wp2_with fail
    exact bodyPost_ret (v := .tuple #[.agg #[.int .i64 x, .int .i64 y, .int .i64 t, .int .i64 u], v]) (by simp (maxDischargeDepth := 6) [results, Try.results7, go_sem, *]) rfl ⟨x, y, t, u, v, L, rfl, own_set4 O2 (Nat.lt_succ_self _) x y t u, hL, Below.set4 b6 (Nat.le_refl _) x y t u⟩
end Go.Proofs.Ytlfbbdeoejafkaa
