/- What DrawAppRead leaves. -/
import Derived.Test.YtdllkfllnljaaaaV121
import Derived.Deep.RegionHeld3
import Derived.WalkKit
import Derived.WalkSpells
import Derived.WalkLawsBesides
import Derived.Deep.RegionHeld
namespace Go.Proofs.Ytdllkfllnljaaaa
open Go.RowKit
set_option linter.unusedVariables false
set_option maxRecDepth 100000 in
set_option maxHeartbeats 8000000 in
theorem DrawAppRead_any (a : Option Addr) (n c : Nat) (w : World) (hn : n ≤ 1048576) (hcode : CodeB w w.heap.size a n) :
    Calls Try.prog 16 #[.slice a n c] w fun e w' => ∃ (h : Bool) (l : Int) (k : Bool) (x y : Int), e = .returned (.tuple #[.agg #[.bool h, .int .i64 l], .bool k, .agg #[.int .i64 x, .int .i64 y]]) ∧ Below w.heap.size w w' := by
  have A0 := Below.nw w (.cells #[.bool false, .int .i64 0] 25)
  have A1 := Below.nw (w.alloc (.cells #[.bool false, .int .i64 0] 25)) (.cells #[.int .i64 0, .int .i64 0] 30)
  have R := (Bx2.new w (.bool false) (.int .i64 0) 25).below A1
  have T := Bx2.new (w.alloc (.cells #[.bool false, .int .i64 0] 25)) (.int .i64 0) (.int .i64 0) 30
  have bb := A0.trans (A1.mono A0.size)
  simp only [World.size_alloc] at T
  clear A0 A1
  have hj2 : w.heap.size ≤ w.heap.size + 1 := by omega
  have hne : w.heap.size ≠ w.heap.size + 1 := by omega
  replace hcode := (hcode.below bb).more bb.size
  go_enter Try.func16, Try.ntmps16
  go_upto_region 1 with fail
  generalize (w.alloc (.cells #[.bool false, .int .i64 0] 25)).alloc (.cells #[.int .i64 0, .int .i64 0] 30) = v at *
  generalize w.heap.size + 1 = j2 at *
  go_wp2_with fail
  refine (l1New_any a n c _ hn hcode).mono ?_
  rintro e w1 ⟨p, rfl, cc, nl⟩
  have hq := cc.lt
  have h1p : w.heap.size ≠ p := by have := R.1; omega
  have h2p : j2 ≠ p := by have := T.1; omega
  have hwp : w.heap.size ≤ p := by have := bb.size; omega
  clear hcode hq
  replace R := R.below nl
  replace T := T.below nl
  replace bb := bb.trans (nl.mono bb.size)
  clear nl
  generalize v.heap.size = B0 at *
  go_wp2_with fail
  refine (l12DrawApp_any _ p _ cc).mono ?_
  rintro e w2 ⟨h, l, rfl, nc, nb⟩
  replace cc := nc
  replace R := R.but nb h1p
  replace T := T.but nb h2p
  replace bb := bb.trans (nb.below hwp bb.size)
  clear nc nb
  have nl := Below.nw w2 (.cells #[.bool h, .int .i64 l] 25)
  have KA := Bx2.new w2 (.bool h) (.int .i64 l) 25
  have d11 : w2.heap.size ≠ w.heap.size := Nat.ne_of_gt R.1
  have d12 : w2.heap.size ≠ j2 := Nat.ne_of_gt T.1
  have d1p : w2.heap.size ≠ p := Nat.ne_of_gt cc.lt.1
  replace cc := cc.below nl
  replace R := R.below nl
  replace T := T.below nl
  replace bb := bb.trans (nl.mono bb.size)
  clear nl
  go_upto_region 3 with fail
  generalize w2.alloc (.cells #[.bool h, .int .i64 l] 25) = w3 at *
  generalize w2.heap.size = k1 at *
  go_wp2_with fail
  refine (l1Once_any _ p _ _ cc).mono ?_
  rintro e w4 ⟨o, rfl, nc, nb⟩
  replace cc := nc
  replace R := R.but nb h1p
  replace T := T.but nb h2p
  replace KA := KA.but nb d1p
  replace bb := bb.trans (nb.below hwp bb.size)
  clear nc nb
  go_upto_region 4 with fail
  refine wp_region_held_drew (S := (fun w' => w'.cell? ⟨k1, 0, none⟩ = some (.bool h) ∧ w'.cell? ⟨k1, 1, none⟩ = some (.int .i64 l))) (by kernel_rfl) ?_ (fun hHeld => ?_)
  · first | exact ⟨KA.2.1, KA.2.2.1⟩ | exact ⟨q1, q2⟩ | exact ⟨(keepC (keepC q1 d11) d11), (keepC (keepC q2 d11) d11)⟩ | exact ⟨(keepC (keepC (keepC (keepC q1 d11) d11) d12) d12), (keepC (keepC (keepC (keepC q2 d11) d11) d12) d12)⟩
  replace cc : CurOk w4.drew B0 p := cc
  replace R := R.drew
  replace T := T.drew
  replace KA := KA.drew
  replace bb := Below.drew bb
  generalize w4.drew = w5 at *
  refine wpAnyH_take (i := 0) (v := ?_) (by rw [List.getElem?_toArray]; rfl) (by kernel_rfl) (by kernel_rfl) (by kernel_rfl) (by intro _ _ _ h; exact h) (Or.inl ⟨by rfl, ?_⟩) (by assumption) ?_
  rotate_left
  · (intro w hSw; (try dsimp only at hSw); go_simp; all_goals with_reducible rfl)
  (try simp only [Act.put, List.setIfInBounds_toArray, List.set_cons_zero, List.set_cons_succ])
  refine wpAnyH_take (i := 1) (v := ?_) (by rw [List.getElem?_toArray]; rfl) (by kernel_rfl) (by kernel_rfl) (by kernel_rfl) (by intro _ _ _ h; exact h) (Or.inl ⟨by rfl, ?_⟩) (by assumption) ?_
  rotate_left
  · (intro w hSw; (try dsimp only at hSw); go_simp; all_goals with_reducible rfl)
  (try simp only [Act.put, List.setIfInBounds_toArray, List.set_cons_zero, List.set_cons_succ])
  refine wpAnyH_take (i := 2) (v := ?_) (by rw [List.getElem?_toArray]; rfl) (by kernel_rfl) (by kernel_rfl) (by kernel_rfl) (by intro _ _ _ h; exact h) (Or.inl ⟨by rfl, ?_⟩) (by assumption) ?_
  rotate_left
  · (intro w hSw; (try dsimp only at hSw); go_simp; all_goals with_reducible rfl)
  (try simp only [Act.put, List.setIfInBounds_toArray, List.set_cons_zero, List.set_cons_succ])
  refine wpAnyH_ready (rs := [3]) (by kernel_rfl) (by simp) ?_
  refine (AllReadyH.cons (by rw [List.getElem?_toArray]; rfl) (fun K hK => ?_) AllReadyH.nil)
  go_simp
  refine (l12DrawNow_any _ p _ cc).mono ?_; rintro ee w6 ⟨x, y, rfl, nc, nb⟩; (replace R := R.but nb h1p); (replace T := T.but nb h2p); (replace KA := KA.but nb d1p); (replace bb := bb.trans (nb.below hwp bb.size)); (clear nc nb); (have RR := (R.set0 (.bool h)).set1 (.int .i64 l)); (have TT := (T.setO hne 0 (.bool h)).setO hne 1 (.int .i64 l)); (have RR2 := (RR.setO (Ne.symm hne) 0 (.int .i64 x)).setO (Ne.symm hne) 1 (.int .i64 y)); (have TT2 := (TT.set0 (.int .i64 x)).set1 (.int .i64 y)); (have BB := (((bb.setCell (p := ⟨w.heap.size, 0, none⟩) (Nat.le_refl _) (.bool h)).setCell (p := ⟨w.heap.size, 1, none⟩) (Nat.le_refl _) (.int .i64 l)).setCell (p := ⟨j2, 0, none⟩) hj2 (.int .i64 x)).setCell (p := ⟨j2, 1, none⟩) hj2 (.int .i64 y)); (obtain ⟨r0, r1, r2, r3, r4⟩ := id R); (obtain ⟨t0, t1, t2, t3, t4⟩ := id T); (obtain ⟨q0, q1, q2, q3, q4⟩ := id KA)
  (try go_wp2_with fail)
  refine hK.out _ _ ?_ (fun hHeld => ?_)
  · first | exact ⟨KA.2.1, KA.2.2.1⟩ | exact ⟨q1, q2⟩ | exact ⟨(keepC (keepC q1 d11) d11), (keepC (keepC q2 d11) d11)⟩ | exact ⟨(keepC (keepC (keepC (keepC q1 d11) d11) d12) d12), (keepC (keepC (keepC (keepC q2 d11) d11) d12) d12)⟩
  clear hK K
  (try simp only [Act.put, List.setIfInBounds_toArray, List.set_cons_zero, List.set_cons_succ])
  refine wpAnyH_ready (rs := [4]) (by kernel_rfl) (by simp) ?_
  refine (AllReadyH.cons (by rw [List.getElem?_toArray]; rfl) (fun K hK => ?_) AllReadyH.nil)
  go_simp
  refine hK.out _ _ ?_ (fun hHeld => ?_)
  · first | exact ⟨KA.2.1, KA.2.2.1⟩ | exact ⟨q1, q2⟩ | exact ⟨(keepC (keepC q1 d11) d11), (keepC (keepC q2 d11) d11)⟩ | exact ⟨(keepC (keepC (keepC (keepC q1 d11) d11) d12) d12), (keepC (keepC (keepC (keepC q2 d11) d11) d12) d12)⟩
  clear hK K
  (try simp only [Act.put, List.setIfInBounds_toArray, List.set_cons_zero, List.set_cons_succ])
  refine wpAnyH_take (i := 5) (v := ?_) (by rw [List.getElem?_toArray]; rfl) (by kernel_rfl) (by kernel_rfl) (by kernel_rfl) (by intro _ _ _ h; exact h) (Or.inl ⟨by rfl, ?_⟩) (by assumption) ?_
  rotate_left
  · (intro w hSw; (try dsimp only at hSw); go_simp; all_goals with_reducible rfl)
  (try simp only [Act.put, List.setIfInBounds_toArray, List.set_cons_zero, List.set_cons_succ])
  refine wpAnyH_ready (rs := [6]) (by kernel_rfl) (by simp) ?_
  refine (AllReadyH.cons (by rw [List.getElem?_toArray]; rfl) (fun K hK => ?_) AllReadyH.nil)
  go_simp
  refine hK.out _ _ ?_ (fun hHeld => ?_)
  · first | exact ⟨KA.2.1, KA.2.2.1⟩ | exact ⟨q1, q2⟩ | exact ⟨(keepC (keepC q1 d11) d11), (keepC (keepC q2 d11) d11)⟩ | exact ⟨(keepC (keepC (keepC (keepC q1 d11) d11) d12) d12), (keepC (keepC (keepC (keepC q2 d11) d11) d12) d12)⟩
  clear hK K
  (try simp only [Act.put, List.setIfInBounds_toArray, List.set_cons_zero, List.set_cons_succ])
  refine wpAnyH_done (by kernel_rfl) ?_ _
  go_wp2_with fail
  clear r0 r1 r2 r3 r4 t0 t1 t2 t3 t4 q0 q1 q2 q3 q4 R T KA RR TT
  generalize (((w6.setCell ⟨w.heap.size, 0, none⟩ (.bool h)).setCell ⟨w.heap.size, 1, none⟩ (.int .i64 l)).setCell ⟨j2, 0, none⟩ (.int .i64 x)).setCell ⟨j2, 1, none⟩ (.int .i64 y) = vz at *
  obtain ⟨r0, r1, r2, r3, r4⟩ := id RR2
  obtain ⟨t0, t1, t2, t3, t4⟩ := id TT2
  exact bodyPost_ret (v := (.tuple #[.agg #[.bool h, .int .i64 l], .bool (!o), .agg #[.int .i64 x, .int .i64 y]])) (by simp (maxDischargeDepth := 6) [results, Try.results16, go_sem, *]) rfl ⟨h, l, _, x, y, rfl, BB⟩end Go.Proofs.Ytdllkfllnljaaaa
