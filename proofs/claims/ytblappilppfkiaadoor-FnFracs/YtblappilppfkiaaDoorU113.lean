/- What DrawFracCmp leaves. -/
import Derived.Test.YtblappilppfkiaaDoorU112
import Derived.Test.YtblappilppfkiaaDoorF124
import Derived.Deep.RegionHeld3
import Derived.WalkKit
import Derived.WalkSpells
import Derived.WalkLawsBesides
import Derived.Deep.RegionHeld
namespace Go.Proofs.YtblappilppfkiaaDoor
open Go.RowKit
set_option linter.unusedVariables false
theorem two_in' {w wr : World} {B j k : Nat} (h : Below B w wr) (hj : B ≤ j) (hk : B ≤ k) (x y z u : Value) : Below B w ((((wr.setCell ⟨j, 0, none⟩ x).setCell ⟨j, 1, none⟩ y).setCell ⟨k, 0, none⟩ z).setCell ⟨k, 1, none⟩ u) := (((h.setCell (p := ⟨j, 0, none⟩) hj x).setCell (p := ⟨j, 1, none⟩) hj y).setCell (p := ⟨k, 0, none⟩) hk z).setCell (p := ⟨k, 1, none⟩) hk u
set_option maxRecDepth 100000 in
set_option maxHeartbeats 8000000 in
theorem DrawFracCmp_any (a : Option Addr) (n c : Nat) (w : World) (hn : n ≤ 1048576) (hcode : CodeB w w.heap.size a n) :
    Calls Tryd.prog 9 #[.slice a n c] w fun e w' => ∃ x1 y1 x2 y2 : Int, e = .returned (.tuple #[.agg #[.int .i64 x1, .int .i64 y1], .agg #[.int .i64 x2, .int .i64 y2]]) ∧ Below w.heap.size w w' := by
  have A0 := Below.nw w (.cells #[.int .i64 0, .int .i64 0] 27)
  have A1 := Below.nw (w.alloc (.cells #[.int .i64 0, .int .i64 0] 27)) (.cells #[.int .i64 0, .int .i64 0] 27)
  have R := (Bx2.new w (.int .i64 0) (.int .i64 0) 27).below A1
  have T := Bx2.new (w.alloc (.cells #[.int .i64 0, .int .i64 0] 27)) (.int .i64 0) (.int .i64 0) 27
  have bb := A0.trans (A1.mono A0.size)
  simp only [World.size_alloc] at T
  clear A0 A1
  have hj2 : w.heap.size ≤ w.heap.size + 1 := by omega
  have hne : w.heap.size ≠ w.heap.size + 1 := by omega
  replace hcode := (hcode.below bb).more bb.size
  go_enter Tryd.func9, Tryd.ntmps9
  go_upto_region 1 with fail
  generalize (w.alloc (.cells #[.int .i64 0, .int .i64 0] 27)).alloc (.cells #[.int .i64 0, .int .i64 0] 27) = v at *
  generalize w.heap.size + 1 = j2 at *
  go_wp2_with fail
  refine (l1New_any a n c _ hn hcode).mono ?_
  rintro e w1 ⟨p, rfl, cc, nl⟩
  have hq := cc.lt
  have h1p : w.heap.size ≠ p := by have := R.1; omega
  have h2p : j2 ≠ p := by have := T.1; omega
  have hwp : w.heap.size ≤ p := by have := bb.size; omega
  clear hcode hq
  replace R := R.below nl
  replace T := T.below nl
  replace bb := bb.trans (nl.mono bb.size)
  clear nl
  go_wp2_with fail
  refine (l11DrawFrac_any _ p _ cc).mono ?_
  rintro e w2 ⟨x1, y1, rfl, nc, nb⟩
  replace cc := nc; replace R := R.but nb h1p; replace T := T.but nb h2p; replace bb := bb.trans (nb.below hwp bb.size); clear nc
  clear nb
  have nl := Below.nw w2 (.cells #[.int .i64 x1, .int .i64 y1] 27)
  have K1 := Bx2.new w2 (.int .i64 x1) (.int .i64 y1) 27
  have d11 : w2.heap.size ≠ w.heap.size := Nat.ne_of_gt R.1
  have d12 : w2.heap.size ≠ j2 := Nat.ne_of_gt T.1
  have d1p : w2.heap.size ≠ p := Nat.ne_of_gt cc.lt.1
  replace cc := cc.below nl; replace R := R.below nl; replace T := T.below nl; replace bb := bb.trans (nl.mono bb.size); clear nl
  go_upto_region 3 with fail
  generalize w2.alloc (.cells #[.int .i64 x1, .int .i64 y1] 27) = w3 at *
  generalize w2.heap.size = k1 at *
  go_wp2_with fail
  refine (l11DrawFrac_any _ p _ cc).mono ?_
  rintro e w4 ⟨x2, y2, rfl, nc, nb⟩
  replace cc := nc; replace R := R.but nb h1p; replace T := T.but nb h2p; replace bb := bb.trans (nb.below hwp bb.size); clear nc
  replace K1 := K1.but nb d1p
  clear nb
  have nl := Below.nw w4 (.cells #[.int .i64 x2, .int .i64 y2] 27)
  have K2 := Bx2.new w4 (.int .i64 x2) (.int .i64 y2) 27
  have d21 : w4.heap.size ≠ w.heap.size := Nat.ne_of_gt R.1
  have d22 : w4.heap.size ≠ j2 := Nat.ne_of_gt T.1
  have d2p : w4.heap.size ≠ p := Nat.ne_of_gt cc.lt.1
  have dkk : w4.heap.size ≠ k1 := Nat.ne_of_gt K1.1
  have hwk : w.heap.size ≤ w4.heap.size := bb.size
  replace K1 := K1.below nl
  replace cc := cc.below nl; replace R := R.below nl; replace T := T.below nl; replace bb := bb.trans (nl.mono bb.size); clear nl
  go_upto_region 4 with fail
  generalize w4.alloc (.cells #[.int .i64 x2, .int .i64 y2] 27) = w5 at *
  generalize w4.heap.size = k2 at *
  go_wp2_with fail
  refine (l1Once_any _ p _ _ cc).mono ?_
  rintro e w6 ⟨o, rfl, nc, nb⟩
  replace cc := nc; replace R := R.but nb h1p; replace T := T.but nb h2p; replace bb := bb.trans (nb.below hwp bb.size); clear nc
  replace K1 := K1.but nb d1p
  replace K2 := K2.but nb d2p
  clear nb
  cases o
  · go_upto_region 6 with fail
    have RR := (R.set0 (.int .i64 x1)).set1 (.int .i64 y1)
    have TT := ((T.setO hne 0 (.int .i64 x1)).setO hne 1 (.int .i64 y1))
    have RR2 := ((RR.setO (Ne.symm hne) 0 (.int .i64 x2)).setO (Ne.symm hne) 1 (.int .i64 y2))
    have TT2 := (TT.set0 (.int .i64 x2)).set1 (.int .i64 y2)
    have BB := two_in' bb (Nat.le_refl _) hj2 (.int .i64 x1) (.int .i64 y1) (.int .i64 x2) (.int .i64 y2)
    obtain ⟨r0, r1, r2, r3, r4⟩ := id R
    obtain ⟨t0, t1, t2, t3, t4⟩ := id T
    obtain ⟨p0, p1, p2, p3, p4⟩ := id K1
    obtain ⟨q0, q1, q2, q3, q4⟩ := id K2
    refine wp_region_held_drew (S := (fun w' => w'.cell? ⟨k1, 0, none⟩ = some (.int .i64 x1) ∧ w'.cell? ⟨k1, 1, none⟩ = some (.int .i64 y1) ∧ w'.cell? ⟨k2, 0, none⟩ = some (.int .i64 x2) ∧ w'.cell? ⟨k2, 1, none⟩ = some (.int .i64 y2))) (by kernel_rfl) ?_ (fun hHeld => ?_)
    · first | exact ⟨p1, p2, q1, q2⟩ | exact ⟨(keepC (keepC p1 d11) d11), (keepC (keepC p2 d11) d11), (keepC (keepC q1 d21) d21), (keepC (keepC q2 d21) d21)⟩ | exact ⟨(keepC (keepC (keepC (keepC p1 d11) d11) d12) d12), (keepC (keepC (keepC (keepC p2 d11) d11) d12) d12), (keepC (keepC (keepC (keepC q1 d21) d21) d22) d22), (keepC (keepC (keepC (keepC q2 d21) d21) d22) d22)⟩
    refine wpAnyH_take (i := 0) (v := ?_) (by rw [List.getElem?_toArray]; rfl) (by kernel_rfl) (by kernel_rfl) (by kernel_rfl) (by intro _ _ _ h; exact h) (Or.inl ⟨by rfl, ?_⟩) (by assumption) ?_
    rotate_left
    · (intro w hSw; (try dsimp only at hSw); go_simp; all_goals with_reducible rfl)
    (try simp only [Act.put, List.setIfInBounds_toArray, List.set_cons_zero, List.set_cons_succ])
    refine wpAnyH_take (i := 1) (v := ?_) (by rw [List.getElem?_toArray]; rfl) (by kernel_rfl) (by kernel_rfl) (by kernel_rfl) (by intro _ _ _ h; exact h) (Or.inl ⟨by rfl, ?_⟩) (by assumption) ?_
    rotate_left
    · (intro w hSw; (try dsimp only at hSw); go_simp; all_goals with_reducible rfl)
    (try simp only [Act.put, List.setIfInBounds_toArray, List.set_cons_zero, List.set_cons_succ])
    refine wpAnyH_ready (rs := [2]) (by kernel_rfl) (by simp) ?_
    refine AllReadyH.cons (by rw [List.getElem?_toArray]; rfl) (fun K hK => ?_) AllReadyH.nil
    go_simp
    refine hK.out _ _ ?_ (fun hHeld => ?_)
    · first | exact ⟨p1, p2, q1, q2⟩ | exact ⟨(keepC (keepC p1 d11) d11), (keepC (keepC p2 d11) d11), (keepC (keepC q1 d21) d21), (keepC (keepC q2 d21) d21)⟩ | exact ⟨(keepC (keepC (keepC (keepC p1 d11) d11) d12) d12), (keepC (keepC (keepC (keepC p2 d11) d11) d12) d12), (keepC (keepC (keepC (keepC q1 d21) d21) d22) d22), (keepC (keepC (keepC (keepC q2 d21) d21) d22) d22)⟩
    clear hK K
    (try simp only [Act.put, List.setIfInBounds_toArray, List.set_cons_zero, List.set_cons_succ])
    refine wpAnyH_ready (rs := [3]) (by kernel_rfl) (by simp) ?_
    refine AllReadyH.cons (by rw [List.getElem?_toArray]; rfl) (fun K hK => ?_) AllReadyH.nil
    go_simp
    refine hK.out _ _ ?_ (fun hHeld => ?_)
    · first | exact ⟨p1, p2, q1, q2⟩ | exact ⟨(keepC (keepC p1 d11) d11), (keepC (keepC p2 d11) d11), (keepC (keepC q1 d21) d21), (keepC (keepC q2 d21) d21)⟩ | exact ⟨(keepC (keepC (keepC (keepC p1 d11) d11) d12) d12), (keepC (keepC (keepC (keepC p2 d11) d11) d12) d12), (keepC (keepC (keepC (keepC q1 d21) d21) d22) d22), (keepC (keepC (keepC (keepC q2 d21) d21) d22) d22)⟩
    clear hK K
    (try simp only [Act.put, List.setIfInBounds_toArray, List.set_cons_zero, List.set_cons_succ])
    refine wpAnyH_done (by kernel_rfl) ?_ _
    go_wp2_with fail
    clear r0 r1 r2 r3 r4 t0 t1 t2 t3 t4 p0 p1 p2 p3 p4 q0 q1 q2 q3 q4 R T RR TT K1 K2 bb
    generalize (((w6.setCell ⟨w.heap.size, 0, none⟩ (.int .i64 x1)).setCell ⟨w.heap.size, 1, none⟩ (.int .i64 y1)).setCell ⟨j2, 0, none⟩ (.int .i64 x2)).setCell ⟨j2, 1, none⟩ (.int .i64 y2) = v10 at *
    obtain ⟨r0, r1, r2, r3, r4⟩ := id RR2
    obtain ⟨t0, t1, t2, t3, t4⟩ := id TT2
    exact bodyPost_ret (v := (.tuple #[.agg #[.int .i64 x1, .int .i64 y1], .agg #[.int .i64 x2, .int .i64 y2]])) (by simp (maxDischargeDepth := 6) [results, Tryd.results9, go_sem, *]) rfl ⟨x1, y1, x2, y2, rfl, Below.drew BB⟩
  · obtain ⟨p0, p1, p2, p3, p4⟩ := id K1
    obtain ⟨q0, q1, q2, q3, q4⟩ := id K2
    go_upto_region 6 with fail
    clear p0 p1 p2 p3 p4 q0 q1 q2 q3 q4
    replace K1 := (K1.setO dkk 0 (.int .i64 x1)).setO dkk 1 (.int .i64 y1)
    replace K2 := (K2.set0 (.int .i64 x1)).set1 (.int .i64 y1)
    replace R := (R.setO d21 0 (.int .i64 x1)).setO d21 1 (.int .i64 y1)
    replace T := (T.setO d22 0 (.int .i64 x1)).setO d22 1 (.int .i64 y1)
    replace bb := (bb.setCell (p := ⟨k2, 0, none⟩) hwk (.int .i64 x1)).setCell (p := ⟨k2, 1, none⟩) hwk (.int .i64 y1)
    generalize (w6.setCell ⟨k2, 0, none⟩ (.int .i64 x1)).setCell ⟨k2, 1, none⟩ (.int .i64 y1) = w7 at *
    clear cc
    have RR := (R.set0 (.int .i64 x1)).set1 (.int .i64 y1)
    have TT := ((T.setO hne 0 (.int .i64 x1)).setO hne 1 (.int .i64 y1))
    have RR2 := ((RR.setO (Ne.symm hne) 0 (.int .i64 x1)).setO (Ne.symm hne) 1 (.int .i64 y1))
    have TT2 := (TT.set0 (.int .i64 x1)).set1 (.int .i64 y1)
    have BB := two_in' bb (Nat.le_refl _) hj2 (.int .i64 x1) (.int .i64 y1) (.int .i64 x1) (.int .i64 y1)
    obtain ⟨r0, r1, r2, r3, r4⟩ := id R
    obtain ⟨t0, t1, t2, t3, t4⟩ := id T
    obtain ⟨p0, p1, p2, p3, p4⟩ := id K1
    obtain ⟨q0, q1, q2, q3, q4⟩ := id K2
    refine wp_region_held_drew (S := (fun w' => w'.cell? ⟨k1, 0, none⟩ = some (.int .i64 x1) ∧ w'.cell? ⟨k1, 1, none⟩ = some (.int .i64 y1) ∧ w'.cell? ⟨k2, 0, none⟩ = some (.int .i64 x1) ∧ w'.cell? ⟨k2, 1, none⟩ = some (.int .i64 y1))) (by kernel_rfl) ?_ (fun hHeld => ?_)
    · first | exact ⟨p1, p2, q1, q2⟩ | exact ⟨(keepC (keepC p1 d11) d11), (keepC (keepC p2 d11) d11), (keepC (keepC q1 d21) d21), (keepC (keepC q2 d21) d21)⟩ | exact ⟨(keepC (keepC (keepC (keepC p1 d11) d11) d12) d12), (keepC (keepC (keepC (keepC p2 d11) d11) d12) d12), (keepC (keepC (keepC (keepC q1 d21) d21) d22) d22), (keepC (keepC (keepC (keepC q2 d21) d21) d22) d22)⟩
    refine wpAnyH_take (i := 0) (v := ?_) (by rw [List.getElem?_toArray]; rfl) (by kernel_rfl) (by kernel_rfl) (by kernel_rfl) (by intro _ _ _ h; exact h) (Or.inl ⟨by rfl, ?_⟩) (by assumption) ?_
    rotate_left
    · (intro w hSw; (try dsimp only at hSw); go_simp; all_goals with_reducible rfl)
    (try simp only [Act.put, List.setIfInBounds_toArray, List.set_cons_zero, List.set_cons_succ])
    refine wpAnyH_take (i := 1) (v := ?_) (by rw [List.getElem?_toArray]; rfl) (by kernel_rfl) (by kernel_rfl) (by kernel_rfl) (by intro _ _ _ h; exact h) (Or.inl ⟨by rfl, ?_⟩) (by assumption) ?_
    rotate_left
    · (intro w hSw; (try dsimp only at hSw); go_simp; all_goals with_reducible rfl)
    (try simp only [Act.put, List.setIfInBounds_toArray, List.set_cons_zero, List.set_cons_succ])
    refine wpAnyH_ready (rs := [2]) (by kernel_rfl) (by simp) ?_
    refine AllReadyH.cons (by rw [List.getElem?_toArray]; rfl) (fun K hK => ?_) AllReadyH.nil
    go_simp
    refine hK.out _ _ ?_ (fun hHeld => ?_)
    · first | exact ⟨p1, p2, q1, q2⟩ | exact ⟨(keepC (keepC p1 d11) d11), (keepC (keepC p2 d11) d11), (keepC (keepC q1 d21) d21), (keepC (keepC q2 d21) d21)⟩ | exact ⟨(keepC (keepC (keepC (keepC p1 d11) d11) d12) d12), (keepC (keepC (keepC (keepC p2 d11) d11) d12) d12), (keepC (keepC (keepC (keepC q1 d21) d21) d22) d22), (keepC (keepC (keepC (keepC q2 d21) d21) d22) d22)⟩
    clear hK K
    (try simp only [Act.put, List.setIfInBounds_toArray, List.set_cons_zero, List.set_cons_succ])
    refine wpAnyH_ready (rs := [3]) (by kernel_rfl) (by simp) ?_
    refine AllReadyH.cons (by rw [List.getElem?_toArray]; rfl) (fun K hK => ?_) AllReadyH.nil
    go_simp
    refine hK.out _ _ ?_ (fun hHeld => ?_)
    · first | exact ⟨p1, p2, q1, q2⟩ | exact ⟨(keepC (keepC p1 d11) d11), (keepC (keepC p2 d11) d11), (keepC (keepC q1 d21) d21), (keepC (keepC q2 d21) d21)⟩ | exact ⟨(keepC (keepC (keepC (keepC p1 d11) d11) d12) d12), (keepC (keepC (keepC (keepC p2 d11) d11) d12) d12), (keepC (keepC (keepC (keepC q1 d21) d21) d22) d22), (keepC (keepC (keepC (keepC q2 d21) d21) d22) d22)⟩
    clear hK K
    (try simp only [Act.put, List.setIfInBounds_toArray, List.set_cons_zero, List.set_cons_succ])
    refine wpAnyH_done (by kernel_rfl) ?_ _
    go_wp2_with fail
    clear r0 r1 r2 r3 r4 t0 t1 t2 t3 t4 p0 p1 p2 p3 p4 q0 q1 q2 q3 q4 R T RR TT K1 K2 bb
    generalize (((w7.setCell ⟨w.heap.size, 0, none⟩ (.int .i64 x1)).setCell ⟨w.heap.size, 1, none⟩ (.int .i64 y1)).setCell ⟨j2, 0, none⟩ (.int .i64 x1)).setCell ⟨j2, 1, none⟩ (.int .i64 y1) = v10 at *
    obtain ⟨r0, r1, r2, r3, r4⟩ := id RR2
    obtain ⟨t0, t1, t2, t3, t4⟩ := id TT2
    exact bodyPost_ret (v := (.tuple #[.agg #[.int .i64 x1, .int .i64 y1], .agg #[.int .i64 x1, .int .i64 y1]])) (by simp (maxDischargeDepth := 6) [results, Tryd.results9, go_sem, *]) rfl ⟨x1, y1, x1, y1, rfl, Below.drew BB⟩
end Go.Proofs.YtblappilppfkiaaDoor
