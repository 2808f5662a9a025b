/- The draw of a fusion. -/
import Derived.Test.YtaggohibfghnmaaY91
import Derived.Test.YtaggohibfghnmaaX920
import Derived.Deep.RegionHeld3
import Derived.Deep.DeepCutAuto
import Derived.WalkKit
import Derived.WalkSpells
import Derived.WalkLawsBesides
import Derived.Deep.RegionHeld
namespace Go.Proofs.Ytaggohibfghnmaa
open Go.RowKit
set_option linter.unusedVariables false
set_option maxRecDepth 100000 in
set_option maxHeartbeats 4000000 in
theorem DrawFuse_any (a : Option Addr) (n c : Nat) (w : World) (hn : n ≤ 1048576) (hcode : CodeB w w.heap.size a n) :
    Calls Try.prog 8 #[.slice a n c] w fun e w' => ∃ (ol oh : Int) (kn : Bool) (v : Value) (L : List (Int × Int)) (ff le : Int), e = .returned (.tuple #[.agg #[.int .i64 ol, .int .i64 oh], .bool kn, v, .int .i64 ff, .int .i64 le]) ∧ w'.ownsRow w.heap.size 25 2 v L.length (prs L) ∧ L.length ≤ 100 ∧ Below w.heap.size w w' := by
  have HC : Hid (CodeB w w.heap.size a n) := hcode
  clear hcode
  have R := Vb.new w 0 0 25
  have B := Below.al9 w (.cells #[.int .i64 0, .int .i64 0] 25)
  have HC2 : Hid (CodeB (w.alloc (.cells #[.int .i64 0, .int .i64 0] 25)) (w.alloc (.cells #[.int .i64 0, .int .i64 0] 25)).heap.size a n) := (HC.out.below B).more (by simp)
  have hsz0 : (w.alloc (.cells #[.int .i64 0, .int .i64 0] 25)).heap.size = w.heap.size + 1 := by simp
  go_enter Try.func8, Try.ntmps8
  go_wp2_with fail
  refine (l1New_any a n c _ hn HC2.out).mono ?_
  rintro e w1 ⟨p, rfl, C, hb⟩
  rw [hsz0] at C
  have hpp := C.lt
  replace R := R.below hb
  replace B := B.trans (hb.mono B.size)
  have hw1 : w.heap.size + 1 ≤ w1.heap.size := by have := hb.size; omega
  clear hb HC HC2 hsz0
  have hwp : w.heap.size ≤ p := by omega
  have hrp : w.heap.size ≠ p := by omega
  go_wp2_with fail
  refine (l1Size12 _ _ _ _ hn).mono ?_
  rintro e w' ⟨x, rfl, x0, x1, rfl⟩
  go_wp2_with fail
  refine (l9DrawList_any _ p _ _ C x0 x1).mono ?_
  rintro e w2 ⟨v9, L, rfl, o2, hL, C2, hb⟩
  clear C
  replace R := R.grown hb.grown hrp
  replace B := B.trans (hb.below hwp B.size)
  clear hb
  obtain ⟨a2, c2, rfl, hc2, hcm, -⟩ := own_src o2
  have hp1 : p < w1.heap.size := hpp.1
  go_wp2_with fail
  refine (l1Below_any _ p _ _ C2).mono ?_
  rintro e w3 ⟨ol0, rfl, _, _, _, _, C3, hb⟩
  clear C2
  replace R := R.grown hb.grown hrp
  have o3 := own_but o2 hb hp1
  replace B := B.trans (hb.below hwp B.size)
  clear hb o2
  go_wp2_with fail
  refine (l1Below_any _ p _ _ C3).mono ?_
  rintro e w4 ⟨oh0, rfl, _, _, _, _, C4, hb⟩
  clear C3
  replace R := R.grown hb.grown hrp
  have o4 := own_but o3 hb hp1
  replace B := B.trans (hb.below hwp B.size)
  clear hb o3
  have A := Below.al9 w4 (.cells #[.int .i64 ol0, .int .i64 (40 + oh0)] 25)
  have Q := Vb.new w4 ol0 (40 + oh0) 25
  have hr4 := R.1
  have hp4 := C4.lt
  replace R := R.below A
  have O := own_below o4 A
  replace B := B.trans (A.mono B.size)
  have C := C4.below A
  have HQO : Hid (∀ g, Value.ownBlock (.slice a2 L.length c2) = some g → g ≠ w4.heap.size) := fun g hg => by have := (o4.lt g hg).2; omega
  clear A C4 o4
  go_upto_region 4 with fail
  generalize 40 + oh0 = oh1 at *
  generalize hjq : w4.heap.size = jq at *
  generalize w4.alloc (.cells #[.int .i64 ol0, .int .i64 oh1] 25) = v at *
  clear hjq
  have hqp : jq ≠ p := by omega
  have hqw : jq ≠ w.heap.size := by omega
  have hpo : p < w1.heap.size := hp1
  go_wp2_with fail
  refine (l1Once_any _ p _ _ C).mono ?_
  rintro e v2 ⟨oo, rfl, C', hb⟩
  clear C
  have C := C'
  clear C'
  replace Q := Q.grown hb.grown hqp
  replace R := R.grown hb.grown hrp
  replace O := own_but O hb hpo
  replace B := B.trans (hb.below hwp B.size)
  clear hb
  generalize v2 = v at *
  cases oo

  · skip
    generalize hol : ol0 = ol at *
    generalize hoh : oh1 = oh at *
    clear hol hoh
    have hlen : (L.length : Int).tdiv 2 = (L.length : Int) / 2 := Int.tdiv_eq_ediv_of_nonneg (by omega)
    go_wp2_with fail
    refine (l1Max_any _ _ _).mono ?_
    rintro e w' ⟨rfl, rfl⟩
    have hmx : 0 ≤ imx ((L.length : Int) / 2) 1 ∧ imx ((L.length : Int) / 2) 1 ≤ 100 := by unfold imx; split <;> omega
    generalize imx ((L.length : Int) / 2) 1 = mx at *
    go_wp2_with fail
    refine (l1Below_any _ p _ _ C).mono ?_
    rintro e v5 ⟨x5, rfl, x5l, x5h, _, _, C', hb⟩
    clear C
    have C := C'
    clear C'
    replace Q := Q.grown hb.grown hqp
    replace R := R.grown hb.grown hrp
    replace O := own_but O hb hpo
    replace B := B.trans (hb.below hwp B.size)
    clear hb
    generalize v5 = v at *
    go_wp2_with fail
    refine (l1Below_any _ p _ _ C).mono ?_
    rintro e v6 ⟨x6, rfl, x6l, x6h, _, _, C', hb⟩
    clear C
    have C := C'
    clear C'
    replace Q := Q.grown hb.grown hqp
    replace R := R.grown hb.grown hrp
    replace O := own_but O hb hpo
    replace B := B.trans (hb.below hwp B.size)
    clear hb
    generalize v6 = v at *
    have ht6 : x6.tdiv 24 = x6 / 24 := Int.tdiv_eq_ediv_of_nonneg (by omega)
    obtain ⟨q0, q1, q2, q3, q4⟩ := id Q
    obtain ⟨r0, r1, r2, r3, r4⟩ := id R
    go_wp2_with fail
    refine wp_region_held_drew (S := (fun w' => w'.cell? ⟨jq, 0, none⟩ = some (.int .i64 ol) ∧ w'.cell? ⟨jq, 1, none⟩ = some (.int .i64 oh))) (by kernel_rfl) ?_ (fun hHeld => ?_)
    · first | exact ⟨q1, q2⟩ | exact ⟨s1, s2⟩ | (simp (maxDischargeDepth := 6) [go_sem, *]; done)
    (replace Q := Q.drew)
    (replace R := R.drew)
    (replace B := Below.drew B)
    (replace C := CurOk.drew C)
    (have O : (World.drew v).ownsRow w1.heap.size 25 2 (.slice a2 L.length c2) L.length (prs L) := O)
    clear q0 q1 q2 q3 q4 r0 r1 r2 r3 r4
    (generalize v.drew = v at *)
    obtain ⟨q0, q1, q2, q3, q4⟩ := id Q; obtain ⟨r0, r1, r2, r3, r4⟩ := id R
    refine wpAnyH_take (i := 0) (v := ?_) (by rw [List.getElem?_toArray]; rfl) (by kernel_rfl) (by kernel_rfl) (by kernel_rfl) (by intro _ _ _ h; exact h) (Or.inl ⟨by rfl, ?_⟩) (by assumption) ?_
    rotate_left
    · (intro w hSw; (try dsimp only at hSw); go_simp; all_goals with_reducible rfl)
    (try simp only [Act.put, List.setIfInBounds_toArray, List.set_cons_zero, List.set_cons_succ])
    refine wpAnyH_take (i := 1) (v := ?_) (by rw [List.getElem?_toArray]; rfl) (by kernel_rfl) (by kernel_rfl) (by kernel_rfl) (by intro _ _ _ h; exact h) (Or.inl ⟨by rfl, ?_⟩) (by assumption) ?_
    rotate_left
    · (intro w hSw; (try dsimp only at hSw); go_simp; all_goals with_reducible rfl)
    (try simp only [Act.put, List.setIfInBounds_toArray, List.set_cons_zero, List.set_cons_succ])
    refine wpAnyH_take (i := 4) (v := ?_) (by rw [List.getElem?_toArray]; rfl) (by kernel_rfl) (by kernel_rfl) (by kernel_rfl) (by intro _ _ _ h; exact h) (Or.inl ⟨by rfl, ?_⟩) (by assumption) ?_
    rotate_left
    · (intro w hSw; (try dsimp only at hSw); go_simp; all_goals with_reducible rfl)
    (try simp only [Act.put, List.setIfInBounds_toArray, List.set_cons_zero, List.set_cons_succ])
    refine wpAnyH_take (i := 5) (v := ?_) (by rw [List.getElem?_toArray]; rfl) (by kernel_rfl) (by kernel_rfl) (by kernel_rfl) (by intro _ _ _ h; exact h) (Or.inl ⟨by rfl, ?_⟩) (by assumption) ?_
    rotate_left
    · (intro w hSw; (try dsimp only at hSw); go_simp; all_goals with_reducible rfl)
    (try simp only [Act.put, List.setIfInBounds_toArray, List.set_cons_zero, List.set_cons_succ])
    refine wpAnyH_take (i := 6) (v := ?_) (by rw [List.getElem?_toArray]; rfl) (by kernel_rfl) (by kernel_rfl) (by kernel_rfl) (by intro _ _ _ h; exact h) (Or.inl ⟨by rfl, ?_⟩) (by assumption) ?_
    rotate_left
    · (intro w hSw; (try dsimp only at hSw); go_simp; all_goals with_reducible rfl)
    (try simp only [Act.put, List.setIfInBounds_toArray, List.set_cons_zero, List.set_cons_succ])
    refine wpAnyH_take (i := 8) (v := ?_) (by rw [List.getElem?_toArray]; rfl) (by kernel_rfl) (by kernel_rfl) (by kernel_rfl) (by intro _ _ _ h; exact h) (Or.inl ⟨by rfl, ?_⟩) (by assumption) ?_
    rotate_left
    · (intro w hSw; (try dsimp only at hSw); go_simp; all_goals with_reducible rfl)
    (try simp only [Act.put, List.setIfInBounds_toArray, List.set_cons_zero, List.set_cons_succ])
    refine wpAnyH_ready (rs := [2]) (by kernel_rfl) (by simp) ?_
    refine AllReadyH.cons (by rw [List.getElem?_toArray]; rfl) (fun K hK => ?_) AllReadyH.nil
    go_simp
    refine (l1Once_any _ p _ _ C).mono ?_; rintro e v ⟨kn, rfl, C', hb⟩; clear C; (have C := C'); clear C'; clear q0 q1 q2 q3 q4 r0 r1 r2 r3 r4; (replace Q := Q.grown hb.grown hqp); (replace R := R.grown hb.grown hrp); (replace O := own_but O hb hpo); (replace B := B.trans (hb.below hwp B.size)); clear hb; obtain ⟨q0, q1, q2, q3, q4⟩ := id Q; obtain ⟨r0, r1, r2, r3, r4⟩ := id R
    (try go_wp2_with fail)
    refine hK.out _ _ ?_ (fun hHeld => ?_)
    · first | exact ⟨q1, q2⟩ | exact ⟨s1, s2⟩ | (simp (maxDischargeDepth := 6) [go_sem, *]; done)
    clear hK K
    (try simp only [Act.put, List.setIfInBounds_toArray, List.set_cons_zero, List.set_cons_succ])
    refine wpAnyH_take (i := 3) (v := ?_) (by rw [List.getElem?_toArray]; rfl) (by kernel_rfl) (by kernel_rfl) (by kernel_rfl) (by intro _ _ _ h; exact h) (Or.inl ⟨by rfl, ?_⟩) (by assumption) ?_
    rotate_left
    · (intro w hSw; (try dsimp only at hSw); go_simp; all_goals with_reducible rfl)
    (try simp only [Act.put, List.setIfInBounds_toArray, List.set_cons_zero, List.set_cons_succ])
    refine wpAnyH_ready (rs := [7]) (by kernel_rfl) (by simp) ?_
    refine AllReadyH.cons (by rw [List.getElem?_toArray]; rfl) (fun K hK => ?_) AllReadyH.nil
    go_simp
    refine (l1Below_any _ p _ _ C).mono ?_; rintro e v ⟨y9, rfl, _, _, _, _, C', hb⟩; clear C; (have C := C'); clear C'; clear q0 q1 q2 q3 q4 r0 r1 r2 r3 r4; (replace Q := Q.grown hb.grown hqp); (replace R := R.grown hb.grown hrp); (replace O := own_but O hb hpo); (replace B := B.trans (hb.below hwp B.size)); clear hb; obtain ⟨q0, q1, q2, q3, q4⟩ := id Q; obtain ⟨r0, r1, r2, r3, r4⟩ := id R
    (try go_wp2_with fail)
    refine hK.out _ _ ?_ (fun hHeld => ?_)
    · first | exact ⟨q1, q2⟩ | exact ⟨s1, s2⟩ | (simp (maxDischargeDepth := 6) [go_sem, *]; done)
    clear hK K
    (try simp only [Act.put, List.setIfInBounds_toArray, List.set_cons_zero, List.set_cons_succ])
    refine wpAnyH_ready (rs := [9]) (by kernel_rfl) (by simp) ?_
    refine AllReadyH.cons (by rw [List.getElem?_toArray]; rfl) (fun K hK => ?_) AllReadyH.nil
    go_simp
    refine (l1Below_any _ p _ _ C).mono ?_; rintro e v ⟨z9, rfl, zl9, zh9, _, _, C', hb⟩; clear C; (have C := C'); clear C'; clear q0 q1 q2 q3 q4 r0 r1 r2 r3 r4; (replace Q := Q.grown hb.grown hqp); (replace R := R.grown hb.grown hrp); (replace O := own_but O hb hpo); (replace B := B.trans (hb.below hwp B.size)); clear hb; obtain ⟨q0, q1, q2, q3, q4⟩ := id Q; obtain ⟨r0, r1, r2, r3, r4⟩ := id R; (have s1 : ((v.setCell ⟨w.heap.size, 0, none⟩ (.int .i64 ol)).setCell ⟨w.heap.size, 1, none⟩ (.int .i64 oh)).cell? ⟨jq, 0, none⟩ = some (.int .i64 ol) := (put2_cell v ol oh q0 hqw).trans q1); (have s2 : ((v.setCell ⟨w.heap.size, 0, none⟩ (.int .i64 ol)).setCell ⟨w.heap.size, 1, none⟩ (.int .i64 oh)).cell? ⟨jq, 1, none⟩ = some (.int .i64 oh) := (put2_cell v ol oh q0 hqw).trans q2)
    (try go_wp2_with fail)
    refine hK.out _ _ ?_ (fun hHeld => ?_)
    · first | exact ⟨q1, q2⟩ | exact ⟨s1, s2⟩ | (simp (maxDischargeDepth := 6) [go_sem, *]; done)
    clear hK K
    (try simp only [Act.put, List.setIfInBounds_toArray, List.set_cons_zero, List.set_cons_succ])
    refine wpAnyH_take (i := 10) (v := ?_) (by rw [List.getElem?_toArray]; rfl) (by kernel_rfl) (by kernel_rfl) (by kernel_rfl) (by intro _ _ _ h; exact h) (Or.inl ⟨by rfl, ?_⟩) (by assumption) ?_
    rotate_left
    · (intro w hSw; (try dsimp only at hSw); go_simp; all_goals with_reducible rfl)
    (try simp only [Act.put, List.setIfInBounds_toArray, List.set_cons_zero, List.set_cons_succ])
    refine wpAnyH_take (i := 11) (v := ?_) (by rw [List.getElem?_toArray]; rfl) (by kernel_rfl) (by kernel_rfl) (by kernel_rfl) (by intro _ _ _ h; exact h) (Or.inl ⟨by rfl, ?_⟩) (by assumption) ?_
    rotate_left
    · (intro w hSw; (try dsimp only at hSw); go_simp; all_goals with_reducible rfl)
    (try simp only [Act.put, List.setIfInBounds_toArray, List.set_cons_zero, List.set_cons_succ])
    refine wpAnyH_ready (rs := [12]) (by kernel_rfl) (by simp) ?_
    refine AllReadyH.cons (by rw [List.getElem?_toArray]; rfl) (fun K hK => ?_) AllReadyH.nil
    go_simp
    refine hK.out _ _ ?_ (fun hHeld => ?_)
    · first | exact ⟨q1, q2⟩ | exact ⟨s1, s2⟩ | (simp (maxDischargeDepth := 6) [go_sem, *]; done)
    clear hK K
    (try simp only [Act.put, List.setIfInBounds_toArray, List.set_cons_zero, List.set_cons_succ])
    refine wpAnyH_take (i := 13) (v := ?_) (by rw [List.getElem?_toArray]; rfl) (by kernel_rfl) (by kernel_rfl) (by kernel_rfl) (by intro _ _ _ h; exact h) (Or.inl ⟨by rfl, ?_⟩) (by assumption) ?_
    rotate_left
    · (intro w hSw; (try dsimp only at hSw); go_simp; all_goals with_reducible rfl)
    (try simp only [Act.put, List.setIfInBounds_toArray, List.set_cons_zero, List.set_cons_succ])
    refine wpAnyH_take (i := 14) (v := ?_) (by rw [List.getElem?_toArray]; rfl) (by kernel_rfl) (by kernel_rfl) (by kernel_rfl) (by intro _ _ _ h; exact h) (Or.inl ⟨by rfl, ?_⟩) (by assumption) ?_
    rotate_left
    · (intro w hSw; (try dsimp only at hSw); go_simp; all_goals with_reducible rfl)
    (try simp only [Act.put, List.setIfInBounds_toArray, List.set_cons_zero, List.set_cons_succ])
    refine wpAnyH_take (i := 15) (v := ?_) (by rw [List.getElem?_toArray]; rfl) (by kernel_rfl) (by kernel_rfl) (by kernel_rfl) (by intro _ _ _ h; exact h) (Or.inl ⟨by rfl, ?_⟩) (by assumption) ?_
    rotate_left
    · (intro w hSw; (try dsimp only at hSw); go_simp; all_goals with_reducible rfl)
    (try simp only [Act.put, List.setIfInBounds_toArray, List.set_cons_zero, List.set_cons_succ])
    refine wpAnyH_take (i := 16) (v := ?_) (by rw [List.getElem?_toArray]; rfl) (by kernel_rfl) (by kernel_rfl) (by kernel_rfl) (by intro _ _ _ h; exact h) (Or.inl ⟨by rfl, ?_⟩) (by assumption) ?_
    rotate_left
    · (intro w hSw; (try dsimp only at hSw); go_simp; all_goals with_reducible rfl)
    (try simp only [Act.put, List.setIfInBounds_toArray, List.set_cons_zero, List.set_cons_succ])
    refine wpAnyH_done (by kernel_rfl) ?_ _
    have B9 : Below w.heap.size w ((v.setCell ⟨w.heap.size, 0, none⟩ (.int .i64 ol)).setCell ⟨w.heap.size, 1, none⟩ (.int .i64 oh)) := Below.put2 B (Nat.le_refl _) ol oh
    have R9 : Vb ((v.setCell ⟨w.heap.size, 0, none⟩ (.int .i64 ol)).setCell ⟨w.heap.size, 1, none⟩ (.int .i64 oh)) w.heap.size ol oh := R.put ol oh
    have hwo : ∀ g, Value.ownBlock (.slice a2 L.length c2) = some g → g ≠ w.heap.size := fun g hg => by have := (O.lt g hg).1; omega
    have O9 : ((v.setCell ⟨w.heap.size, 0, none⟩ (.int .i64 ol)).setCell ⟨w.heap.size, 1, none⟩ (.int .i64 oh)).ownsRow w1.heap.size 25 2 (.slice a2 L.length c2) L.length (prs L) := own_set (own_set O hwo 0 _) hwo 1 _
    clear q0 q1 q2 q3 q4 r0 r1 r2 r3 r4 s1 s2 Q R O B C hHeld
    generalize ((v.setCell ⟨w.heap.size, 0, none⟩ (.int .i64 ol)).setCell ⟨w.heap.size, 1, none⟩ (.int .i64 oh)) = w9 at *
    obtain ⟨m0, m1, m2, m3, m4⟩ := R9
    go_wp2_with fail
    exact bodyPost_ret (v := .tuple #[.agg #[.int .i64 ol, .int .i64 oh], .bool (!kn), (.slice a2 L.length c2), .int .i64 (x5 - x6 / 24), .int .i64 (IntKind.i64.wrap (y9 - IntKind.i64.wrap (z9.tdiv 24)))]) (by simp (maxDischargeDepth := 6) [results, Try.results8, go_sem, m1, m2]) rfl ⟨_, _, _, _, L, _, _, rfl, own_base O9 (by omega), hL, B9⟩
  · go_wp2_with fail
    refine (l1DrawIval_any _ p _ C).mono ?_
    rintro e v3 ⟨xx, yy, rfl, C', hb⟩
    clear C
    have C := C'
    clear C'
    replace Q := Q.grown hb.grown hqp
    replace R := R.grown hb.grown hrp
    replace O := own_but O hb hpo
    replace B := B.trans (hb.below hwp B.size)
    clear hb
    have hps : w.heap.size + 1 ≤ jq := by omega
    have Q3 : Vb ((v3.setCell ⟨jq, 0, none⟩ (.int .i64 xx)).setCell ⟨jq, 1, none⟩ (.int .i64 yy)) jq xx yy := Q.put xx yy
    have R3 : Vb ((v3.setCell ⟨jq, 0, none⟩ (.int .i64 xx)).setCell ⟨jq, 1, none⟩ (.int .i64 yy)) w.heap.size 0 0 := R.putO (by omega) xx yy
    have B3 : Below w.heap.size w ((v3.setCell ⟨jq, 0, none⟩ (.int .i64 xx)).setCell ⟨jq, 1, none⟩ (.int .i64 yy)) := Below.put2 B (by omega) xx yy
    have C3 : CurOk ((v3.setCell ⟨jq, 0, none⟩ (.int .i64 xx)).setCell ⟨jq, 1, none⟩ (.int .i64 yy)) (w.heap.size + 1) p := (C.setOther hqp hps 0 (.int .i64 xx)).setOther hqp hps 1 (.int .i64 yy)
    have hqo : ∀ g, Value.ownBlock (.slice a2 L.length c2) = some g → g ≠ jq := HQO.out
    have O3 : ((v3.setCell ⟨jq, 0, none⟩ (.int .i64 xx)).setCell ⟨jq, 1, none⟩ (.int .i64 yy)).ownsRow w1.heap.size 25 2 (.slice a2 L.length c2) L.length (prs L) := own_set (own_set O hqo 0 _) hqo 1 _
    obtain ⟨q0, q1, q2, q3, q4⟩ := Q
    clear R B C O hqo
    go_upto_region 6 with fail
    clear q0 q1 q2 q3 q4
    generalize ((v3.setCell ⟨jq, 0, none⟩ (.int .i64 xx)).setCell ⟨jq, 1, none⟩ (.int .i64 yy)) = v at *
    have Q := Q3
    have R := R3
    have B := B3
    have C := C3
    have O := O3
    clear Q3 R3 B3 C3 O3
    generalize hol : xx = ol at *
    generalize hoh : yy = oh at *
    clear hol hoh
    have hlen : (L.length : Int).tdiv 2 = (L.length : Int) / 2 := Int.tdiv_eq_ediv_of_nonneg (by omega)
    go_wp2_with fail
    refine (l1Max_any _ _ _).mono ?_
    rintro e w' ⟨rfl, rfl⟩
    have hmx : 0 ≤ imx ((L.length : Int) / 2) 1 ∧ imx ((L.length : Int) / 2) 1 ≤ 100 := by unfold imx; split <;> omega
    generalize imx ((L.length : Int) / 2) 1 = mx at *
    go_wp2_with fail
    refine (l1Below_any _ p _ _ C).mono ?_
    rintro e v5 ⟨x5, rfl, x5l, x5h, _, _, C', hb⟩
    clear C
    have C := C'
    clear C'
    replace Q := Q.grown hb.grown hqp
    replace R := R.grown hb.grown hrp
    replace O := own_but O hb hpo
    replace B := B.trans (hb.below hwp B.size)
    clear hb
    generalize v5 = v at *
    go_wp2_with fail
    refine (l1Below_any _ p _ _ C).mono ?_
    rintro e v6 ⟨x6, rfl, x6l, x6h, _, _, C', hb⟩
    clear C
    have C := C'
    clear C'
    replace Q := Q.grown hb.grown hqp
    replace R := R.grown hb.grown hrp
    replace O := own_but O hb hpo
    replace B := B.trans (hb.below hwp B.size)
    clear hb
    generalize v6 = v at *
    have ht6 : x6.tdiv 24 = x6 / 24 := Int.tdiv_eq_ediv_of_nonneg (by omega)
    obtain ⟨q0, q1, q2, q3, q4⟩ := id Q
    obtain ⟨r0, r1, r2, r3, r4⟩ := id R
    go_wp2_with fail
    refine wp_region_held_drew (S := (fun w' => w'.cell? ⟨jq, 0, none⟩ = some (.int .i64 ol) ∧ w'.cell? ⟨jq, 1, none⟩ = some (.int .i64 oh))) (by kernel_rfl) ?_ (fun hHeld => ?_)
    · first | exact ⟨q1, q2⟩ | exact ⟨s1, s2⟩ | (simp (maxDischargeDepth := 6) [go_sem, *]; done)
    (replace Q := Q.drew)
    (replace R := R.drew)
    (replace B := Below.drew B)
    (replace C := CurOk.drew C)
    (have O : (World.drew v).ownsRow w1.heap.size 25 2 (.slice a2 L.length c2) L.length (prs L) := O)
    clear q0 q1 q2 q3 q4 r0 r1 r2 r3 r4
    (generalize v.drew = v at *)
    obtain ⟨q0, q1, q2, q3, q4⟩ := id Q; obtain ⟨r0, r1, r2, r3, r4⟩ := id R
    refine wpAnyH_take (i := 0) (v := ?_) (by rw [List.getElem?_toArray]; rfl) (by kernel_rfl) (by kernel_rfl) (by kernel_rfl) (by intro _ _ _ h; exact h) (Or.inl ⟨by rfl, ?_⟩) (by assumption) ?_
    rotate_left
    · (intro w hSw; (try dsimp only at hSw); go_simp; all_goals with_reducible rfl)
    (try simp only [Act.put, List.setIfInBounds_toArray, List.set_cons_zero, List.set_cons_succ])
    refine wpAnyH_take (i := 1) (v := ?_) (by rw [List.getElem?_toArray]; rfl) (by kernel_rfl) (by kernel_rfl) (by kernel_rfl) (by intro _ _ _ h; exact h) (Or.inl ⟨by rfl, ?_⟩) (by assumption) ?_
    rotate_left
    · (intro w hSw; (try dsimp only at hSw); go_simp; all_goals with_reducible rfl)
    (try simp only [Act.put, List.setIfInBounds_toArray, List.set_cons_zero, List.set_cons_succ])
    refine wpAnyH_take (i := 4) (v := ?_) (by rw [List.getElem?_toArray]; rfl) (by kernel_rfl) (by kernel_rfl) (by kernel_rfl) (by intro _ _ _ h; exact h) (Or.inl ⟨by rfl, ?_⟩) (by assumption) ?_
    rotate_left
    · (intro w hSw; (try dsimp only at hSw); go_simp; all_goals with_reducible rfl)
    (try simp only [Act.put, List.setIfInBounds_toArray, List.set_cons_zero, List.set_cons_succ])
    refine wpAnyH_take (i := 5) (v := ?_) (by rw [List.getElem?_toArray]; rfl) (by kernel_rfl) (by kernel_rfl) (by kernel_rfl) (by intro _ _ _ h; exact h) (Or.inl ⟨by rfl, ?_⟩) (by assumption) ?_
    rotate_left
    · (intro w hSw; (try dsimp only at hSw); go_simp; all_goals with_reducible rfl)
    (try simp only [Act.put, List.setIfInBounds_toArray, List.set_cons_zero, List.set_cons_succ])
    refine wpAnyH_take (i := 6) (v := ?_) (by rw [List.getElem?_toArray]; rfl) (by kernel_rfl) (by kernel_rfl) (by kernel_rfl) (by intro _ _ _ h; exact h) (Or.inl ⟨by rfl, ?_⟩) (by assumption) ?_
    rotate_left
    · (intro w hSw; (try dsimp only at hSw); go_simp; all_goals with_reducible rfl)
    (try simp only [Act.put, List.setIfInBounds_toArray, List.set_cons_zero, List.set_cons_succ])
    refine wpAnyH_take (i := 8) (v := ?_) (by rw [List.getElem?_toArray]; rfl) (by kernel_rfl) (by kernel_rfl) (by kernel_rfl) (by intro _ _ _ h; exact h) (Or.inl ⟨by rfl, ?_⟩) (by assumption) ?_
    rotate_left
    · (intro w hSw; (try dsimp only at hSw); go_simp; all_goals with_reducible rfl)
    (try simp only [Act.put, List.setIfInBounds_toArray, List.set_cons_zero, List.set_cons_succ])
    refine wpAnyH_ready (rs := [2]) (by kernel_rfl) (by simp) ?_
    refine AllReadyH.cons (by rw [List.getElem?_toArray]; rfl) (fun K hK => ?_) AllReadyH.nil
    go_simp
    refine (l1Once_any _ p _ _ C).mono ?_; rintro e v ⟨kn, rfl, C', hb⟩; clear C; (have C := C'); clear C'; clear q0 q1 q2 q3 q4 r0 r1 r2 r3 r4; (replace Q := Q.grown hb.grown hqp); (replace R := R.grown hb.grown hrp); (replace O := own_but O hb hpo); (replace B := B.trans (hb.below hwp B.size)); clear hb; obtain ⟨q0, q1, q2, q3, q4⟩ := id Q; obtain ⟨r0, r1, r2, r3, r4⟩ := id R
    (try go_wp2_with fail)
    refine hK.out _ _ ?_ (fun hHeld => ?_)
    · first | exact ⟨q1, q2⟩ | exact ⟨s1, s2⟩ | (simp (maxDischargeDepth := 6) [go_sem, *]; done)
    clear hK K
    (try simp only [Act.put, List.setIfInBounds_toArray, List.set_cons_zero, List.set_cons_succ])
    refine wpAnyH_take (i := 3) (v := ?_) (by rw [List.getElem?_toArray]; rfl) (by kernel_rfl) (by kernel_rfl) (by kernel_rfl) (by intro _ _ _ h; exact h) (Or.inl ⟨by rfl, ?_⟩) (by assumption) ?_
    rotate_left
    · (intro w hSw; (try dsimp only at hSw); go_simp; all_goals with_reducible rfl)
    (try simp only [Act.put, List.setIfInBounds_toArray, List.set_cons_zero, List.set_cons_succ])
    refine wpAnyH_ready (rs := [7]) (by kernel_rfl) (by simp) ?_
    refine AllReadyH.cons (by rw [List.getElem?_toArray]; rfl) (fun K hK => ?_) AllReadyH.nil
    go_simp
    refine (l1Below_any _ p _ _ C).mono ?_; rintro e v ⟨y9, rfl, _, _, _, _, C', hb⟩; clear C; (have C := C'); clear C'; clear q0 q1 q2 q3 q4 r0 r1 r2 r3 r4; (replace Q := Q.grown hb.grown hqp); (replace R := R.grown hb.grown hrp); (replace O := own_but O hb hpo); (replace B := B.trans (hb.below hwp B.size)); clear hb; obtain ⟨q0, q1, q2, q3, q4⟩ := id Q; obtain ⟨r0, r1, r2, r3, r4⟩ := id R
    (try go_wp2_with fail)
    refine hK.out _ _ ?_ (fun hHeld => ?_)
    · first | exact ⟨q1, q2⟩ | exact ⟨s1, s2⟩ | (simp (maxDischargeDepth := 6) [go_sem, *]; done)
    clear hK K
    (try simp only [Act.put, List.setIfInBounds_toArray, List.set_cons_zero, List.set_cons_succ])
    refine wpAnyH_ready (rs := [9]) (by kernel_rfl) (by simp) ?_
    refine AllReadyH.cons (by rw [List.getElem?_toArray]; rfl) (fun K hK => ?_) AllReadyH.nil
    go_simp
    refine (l1Below_any _ p _ _ C).mono ?_; rintro e v ⟨z9, rfl, zl9, zh9, _, _, C', hb⟩; clear C; (have C := C'); clear C'; clear q0 q1 q2 q3 q4 r0 r1 r2 r3 r4; (replace Q := Q.grown hb.grown hqp); (replace R := R.grown hb.grown hrp); (replace O := own_but O hb hpo); (replace B := B.trans (hb.below hwp B.size)); clear hb; obtain ⟨q0, q1, q2, q3, q4⟩ := id Q; obtain ⟨r0, r1, r2, r3, r4⟩ := id R; (have s1 : ((v.setCell ⟨w.heap.size, 0, none⟩ (.int .i64 ol)).setCell ⟨w.heap.size, 1, none⟩ (.int .i64 oh)).cell? ⟨jq, 0, none⟩ = some (.int .i64 ol) := (put2_cell v ol oh q0 hqw).trans q1); (have s2 : ((v.setCell ⟨w.heap.size, 0, none⟩ (.int .i64 ol)).setCell ⟨w.heap.size, 1, none⟩ (.int .i64 oh)).cell? ⟨jq, 1, none⟩ = some (.int .i64 oh) := (put2_cell v ol oh q0 hqw).trans q2)
    (try go_wp2_with fail)
    refine hK.out _ _ ?_ (fun hHeld => ?_)
    · first | exact ⟨q1, q2⟩ | exact ⟨s1, s2⟩ | (simp (maxDischargeDepth := 6) [go_sem, *]; done)
    clear hK K
    (try simp only [Act.put, List.setIfInBounds_toArray, List.set_cons_zero, List.set_cons_succ])
    refine wpAnyH_take (i := 10) (v := ?_) (by rw [List.getElem?_toArray]; rfl) (by kernel_rfl) (by kernel_rfl) (by kernel_rfl) (by intro _ _ _ h; exact h) (Or.inl ⟨by rfl, ?_⟩) (by assumption) ?_
    rotate_left
    · (intro w hSw; (try dsimp only at hSw); go_simp; all_goals with_reducible rfl)
    (try simp only [Act.put, List.setIfInBounds_toArray, List.set_cons_zero, List.set_cons_succ])
    refine wpAnyH_take (i := 11) (v := ?_) (by rw [List.getElem?_toArray]; rfl) (by kernel_rfl) (by kernel_rfl) (by kernel_rfl) (by intro _ _ _ h; exact h) (Or.inl ⟨by rfl, ?_⟩) (by assumption) ?_
    rotate_left
    · (intro w hSw; (try dsimp only at hSw); go_simp; all_goals with_reducible rfl)
    (try simp only [Act.put, List.setIfInBounds_toArray, List.set_cons_zero, List.set_cons_succ])
    refine wpAnyH_ready (rs := [12]) (by kernel_rfl) (by simp) ?_
    refine AllReadyH.cons (by rw [List.getElem?_toArray]; rfl) (fun K hK => ?_) AllReadyH.nil
    go_simp
    refine hK.out _ _ ?_ (fun hHeld => ?_)
    · first | exact ⟨q1, q2⟩ | exact ⟨s1, s2⟩ | (simp (maxDischargeDepth := 6) [go_sem, *]; done)
    clear hK K
    (try simp only [Act.put, List.setIfInBounds_toArray, List.set_cons_zero, List.set_cons_succ])
    refine wpAnyH_take (i := 13) (v := ?_) (by rw [List.getElem?_toArray]; rfl) (by kernel_rfl) (by kernel_rfl) (by kernel_rfl) (by intro _ _ _ h; exact h) (Or.inl ⟨by rfl, ?_⟩) (by assumption) ?_
    rotate_left
    · (intro w hSw; (try dsimp only at hSw); go_simp; all_goals with_reducible rfl)
    (try simp only [Act.put, List.setIfInBounds_toArray, List.set_cons_zero, List.set_cons_succ])
    refine wpAnyH_take (i := 14) (v := ?_) (by rw [List.getElem?_toArray]; rfl) (by kernel_rfl) (by kernel_rfl) (by kernel_rfl) (by intro _ _ _ h; exact h) (Or.inl ⟨by rfl, ?_⟩) (by assumption) ?_
    rotate_left
    · (intro w hSw; (try dsimp only at hSw); go_simp; all_goals with_reducible rfl)
    (try simp only [Act.put, List.setIfInBounds_toArray, List.set_cons_zero, List.set_cons_succ])
    refine wpAnyH_take (i := 15) (v := ?_) (by rw [List.getElem?_toArray]; rfl) (by kernel_rfl) (by kernel_rfl) (by kernel_rfl) (by intro _ _ _ h; exact h) (Or.inl ⟨by rfl, ?_⟩) (by assumption) ?_
    rotate_left
    · (intro w hSw; (try dsimp only at hSw); go_simp; all_goals with_reducible rfl)
    (try simp only [Act.put, List.setIfInBounds_toArray, List.set_cons_zero, List.set_cons_succ])
    refine wpAnyH_take (i := 16) (v := ?_) (by rw [List.getElem?_toArray]; rfl) (by kernel_rfl) (by kernel_rfl) (by kernel_rfl) (by intro _ _ _ h; exact h) (Or.inl ⟨by rfl, ?_⟩) (by assumption) ?_
    rotate_left
    · (intro w hSw; (try dsimp only at hSw); go_simp; all_goals with_reducible rfl)
    (try simp only [Act.put, List.setIfInBounds_toArray, List.set_cons_zero, List.set_cons_succ])
    refine wpAnyH_done (by kernel_rfl) ?_ _
    have B9 : Below w.heap.size w ((v.setCell ⟨w.heap.size, 0, none⟩ (.int .i64 ol)).setCell ⟨w.heap.size, 1, none⟩ (.int .i64 oh)) := Below.put2 B (Nat.le_refl _) ol oh
    have R9 : Vb ((v.setCell ⟨w.heap.size, 0, none⟩ (.int .i64 ol)).setCell ⟨w.heap.size, 1, none⟩ (.int .i64 oh)) w.heap.size ol oh := R.put ol oh
    have hwo : ∀ g, Value.ownBlock (.slice a2 L.length c2) = some g → g ≠ w.heap.size := fun g hg => by have := (O.lt g hg).1; omega
    have O9 : ((v.setCell ⟨w.heap.size, 0, none⟩ (.int .i64 ol)).setCell ⟨w.heap.size, 1, none⟩ (.int .i64 oh)).ownsRow w1.heap.size 25 2 (.slice a2 L.length c2) L.length (prs L) := own_set (own_set O hwo 0 _) hwo 1 _
    clear q0 q1 q2 q3 q4 r0 r1 r2 r3 r4 s1 s2 Q R O B C hHeld
    generalize ((v.setCell ⟨w.heap.size, 0, none⟩ (.int .i64 ol)).setCell ⟨w.heap.size, 1, none⟩ (.int .i64 oh)) = w9 at *
    obtain ⟨m0, m1, m2, m3, m4⟩ := R9
    go_wp2_with fail
    exact bodyPost_ret (v := .tuple #[.agg #[.int .i64 ol, .int .i64 oh], .bool (!kn), (.slice a2 L.length c2), .int .i64 (x5 - x6 / 24), .int .i64 (IntKind.i64.wrap (y9 - IntKind.i64.wrap (z9.tdiv 24)))]) (by simp (maxDischargeDepth := 6) [results, Try.results8, go_sem, m1, m2]) rfl ⟨_, _, _, _, L, _, _, rfl, own_base O9 (by omega), hL, B9⟩
end Go.Proofs.Ytaggohibfghnmaa
