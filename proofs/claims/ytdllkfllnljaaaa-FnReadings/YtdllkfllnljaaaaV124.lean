/- What DrawAppRun leaves. -/
import Derived.Test.YtdllkfllnljaaaaV123
import Derived.Deep.RegionHeld3
import Derived.WalkKit
import Derived.WalkSpells
import Derived.WalkLawsBesides
import Derived.Deep.RegionHeld
namespace Go.Proofs.Ytdllkfllnljaaaa
open Go.RowKit
set_option linter.unusedVariables false
set_option maxHeartbeats 400000 in
theorem l1Size30 (a : Option Addr) (n c : Nat) (w : World) (hn : n ≤ 1048576) :
    Calls Try.prog 40 #[.slice a n c, .int .i64 30] w fun e w' => ∃ x : Int, e = .returned (.int .i64 x) ∧ 0 ≤ x ∧ x ≤ 30 ∧ w = w' := by
  have hq : (n : Int).tdiv 20 = (n : Int) / 20 := Int.tdiv_eq_ediv_of_nonneg (by omega)
  go_enter Try.func40, Try.ntmps40
  go_wp2
  all_goals go_ret
  all_goals exact ⟨_, rfl, by omega, by omega, rfl⟩
set_option maxRecDepth 100000 in
set_option maxHeartbeats 8000000 in
theorem DrawAppRun_any (a : Option Addr) (n c : Nat) (w : World) (hn : n ≤ 1048576) (hcode : CodeB w w.heap.size a n) :
    Calls Try.prog 11 #[.slice a n c] w fun e w' => ∃ (h : Bool) (l : Int) (v : Value) (L : List LkT), e = .returned (.tuple #[.agg #[.bool h, .int .i64 l], v]) ∧ w'.ownsRow w.heap.size 32 3 v L.length (lrow L) ∧ L.length ≤ 201 ∧ Below w.heap.size w w' := by
  have bb := Below.nw w (.cells #[.bool false, .int .i64 0] 25)
  have R := Bx2.new w (.bool false) (.int .i64 0) 25
  replace hcode := (hcode.below bb).more bb.size
  go_enter Try.func11, Try.ntmps11
  go_upto_region 1 with fail
  generalize w.alloc (.cells #[.bool false, .int .i64 0] 25) = v at *
  go_wp2_with fail
  refine (l1New_any a n c _ hn hcode).mono ?_
  rintro e w1 ⟨p, rfl, cc, nl⟩
  have hq := cc.lt
  have h1p : w.heap.size ≠ p := by have := R.1; omega
  have hwp : w.heap.size ≤ p := by have := bb.size; omega
  clear hcode hq
  replace R := R.below nl
  replace bb := bb.trans (nl.mono bb.size)
  clear nl
  generalize v.heap.size = B0 at *
  go_wp2_with fail
  refine (l12DrawApp_any _ p _ cc).mono ?_
  rintro e w2 ⟨h, l, rfl, nc, nb⟩
  replace cc := nc
  replace R := R.but nb h1p
  replace bb := bb.trans (nb.below hwp bb.size)
  clear nc nb
  have nl := Below.nw w2 (.cells #[.bool h, .int .i64 l] 25)
  have KA := Bx2.new w2 (.bool h) (.int .i64 l) 25
  have d11 : w2.heap.size ≠ w.heap.size := Nat.ne_of_gt R.1
  have d1p : w2.heap.size ≠ p := Nat.ne_of_gt cc.lt.1
  replace cc := cc.below nl
  replace R := R.below nl
  replace bb := bb.trans (nl.mono bb.size)
  clear nl
  go_upto_region 3 with fail
  generalize w2.alloc (.cells #[.bool h, .int .i64 l] 25) = w3 at *
  generalize w2.heap.size = k1 at *
  refine wp_region_held_drew (S := (fun w' => w'.cell? ⟨k1, 0, none⟩ = some (.bool h) ∧ w'.cell? ⟨k1, 1, none⟩ = some (.int .i64 l))) (by kernel_rfl) ?_ (fun hHeld => ?_)
  · first | exact ⟨KA.2.1, KA.2.2.1⟩ | exact ⟨q1, q2⟩ | exact ⟨(keepC (keepC q1 d11) d11), (keepC (keepC q2 d11) d11)⟩
  replace cc : CurOk w3.drew B0 p := cc
  replace R := R.drew
  replace KA := KA.drew
  replace bb := Below.drew bb
  generalize w3.drew = w5 at *
  refine wpAnyH_take (i := 0) (v := ?_) (by rw [List.getElem?_toArray]; rfl) (by kernel_rfl) (by kernel_rfl) (by kernel_rfl) (by intro _ _ _ h; exact h) (Or.inl ⟨by rfl, ?_⟩) (by assumption) ?_
  rotate_left
  · (intro w hSw; (try dsimp only at hSw); go_simp; all_goals with_reducible rfl)
  (try simp only [Act.put, List.setIfInBounds_toArray, List.set_cons_zero, List.set_cons_succ])
  refine wpAnyH_take (i := 1) (v := ?_) (by rw [List.getElem?_toArray]; rfl) (by kernel_rfl) (by kernel_rfl) (by kernel_rfl) (by intro _ _ _ h; exact h) (Or.inl ⟨by rfl, ?_⟩) (by assumption) ?_
  rotate_left
  · (intro w hSw; (try dsimp only at hSw); go_simp; all_goals with_reducible rfl)
  (try simp only [Act.put, List.setIfInBounds_toArray, List.set_cons_zero, List.set_cons_succ])
  refine wpAnyH_take (i := 2) (v := ?_) (by rw [List.getElem?_toArray]; rfl) (by kernel_rfl) (by kernel_rfl) (by kernel_rfl) (by intro _ _ _ h; exact h) (Or.inl ⟨by rfl, ?_⟩) (by assumption) ?_
  rotate_left
  · (intro w hSw; (try dsimp only at hSw); go_simp; all_goals with_reducible rfl)
  (try simp only [Act.put, List.setIfInBounds_toArray, List.set_cons_zero, List.set_cons_succ])
  refine wpAnyH_ready (rs := [3]) (by kernel_rfl) (by simp) ?_
  refine (AllReadyH.cons (by rw [List.getElem?_toArray]; rfl) (fun K hK => ?_) AllReadyH.nil)
  go_simp
  refine (l1Size30 a n c _ hn).mono ?_; rintro ee w' ⟨ms, rfl, ms0, ms1, rfl⟩
  (try go_wp2_with fail)
  refine hK.out _ _ ?_ (fun hHeld => ?_)
  · first | exact ⟨KA.2.1, KA.2.2.1⟩ | exact ⟨q1, q2⟩ | exact ⟨(keepC (keepC q1 d11) d11), (keepC (keepC q2 d11) d11)⟩
  clear hK K
  (try simp only [Act.put, List.setIfInBounds_toArray, List.set_cons_zero, List.set_cons_succ])
  refine wpAnyH_ready (rs := [4]) (by kernel_rfl) (by simp) ?_
  refine (AllReadyH.cons (by rw [List.getElem?_toArray]; rfl) (fun K hK => ?_) AllReadyH.nil)
  go_simp
  refine (l12DrawLooks_any _ p ms _ cc ms0 (by omega)).mono ?_; rintro ee w6 ⟨v6, L, rfl, ST, hL⟩; (have OW := ST.2.1); (have nb := ST.2.2.1); (have hR5 := R.1); (replace R := R.but nb h1p); (replace KA := KA.but nb d1p); (replace bb := bb.trans (nb.below hwp bb.size)); (have OO := own_baseL (own_butK OW (((But.refl w.heap.size w6).setCell 0 (.bool h)).setCell 1 (.int .i64 l)) hR5) (Nat.le_of_lt hR5)); (clear nb ST OW hR5); (have RR := (R.set0 (.bool h)).set1 (.int .i64 l)); (have BB := (bb.setCell (p := ⟨w.heap.size, 0, none⟩) (Nat.le_refl _) (.bool h)).setCell (p := ⟨w.heap.size, 1, none⟩) (Nat.le_refl _) (.int .i64 l)); (obtain ⟨r0, r1, r2, r3, r4⟩ := id R); (obtain ⟨q0, q1, q2, q3, q4⟩ := id KA)
  (try go_wp2_with fail)
  refine hK.out _ _ ?_ (fun hHeld => ?_)
  · first | exact ⟨KA.2.1, KA.2.2.1⟩ | exact ⟨q1, q2⟩ | exact ⟨(keepC (keepC q1 d11) d11), (keepC (keepC q2 d11) d11)⟩
  clear hK K
  (try simp only [Act.put, List.setIfInBounds_toArray, List.set_cons_zero, List.set_cons_succ])
  refine wpAnyH_ready (rs := [5]) (by kernel_rfl) (by simp) ?_
  refine (AllReadyH.cons (by rw [List.getElem?_toArray]; rfl) (fun K hK => ?_) AllReadyH.nil)
  go_simp
  refine hK.out _ _ ?_ (fun hHeld => ?_)
  · first | exact ⟨KA.2.1, KA.2.2.1⟩ | exact ⟨q1, q2⟩ | exact ⟨(keepC (keepC q1 d11) d11), (keepC (keepC q2 d11) d11)⟩
  clear hK K
  (try simp only [Act.put, List.setIfInBounds_toArray, List.set_cons_zero, List.set_cons_succ])
  refine wpAnyH_take (i := 6) (v := ?_) (by rw [List.getElem?_toArray]; rfl) (by kernel_rfl) (by kernel_rfl) (by kernel_rfl) (by intro _ _ _ h; exact h) (Or.inl ⟨by rfl, ?_⟩) (by assumption) ?_
  rotate_left
  · (intro w hSw; (try dsimp only at hSw); go_simp; all_goals with_reducible rfl)
  (try simp only [Act.put, List.setIfInBounds_toArray, List.set_cons_zero, List.set_cons_succ])
  refine wpAnyH_done (by kernel_rfl) ?_ _
  go_wp2_with fail
  clear r0 r1 r2 r3 r4 q0 q1 q2 q3 q4 R KA
  generalize (w6.setCell ⟨w.heap.size, 0, none⟩ (.bool h)).setCell ⟨w.heap.size, 1, none⟩ (.int .i64 l) = vz at *
  obtain ⟨r0, r1, r2, r3, r4⟩ := id RR
  exact bodyPost_ret (v := (.tuple #[.agg #[.bool h, .int .i64 l], v6])) (by simp (maxDischargeDepth := 6) [results, Try.results11, go_sem, *]) rfl ⟨h, l, v6, L, rfl, OO, hL, BB⟩end Go.Proofs.Ytdllkfllnljaaaa
