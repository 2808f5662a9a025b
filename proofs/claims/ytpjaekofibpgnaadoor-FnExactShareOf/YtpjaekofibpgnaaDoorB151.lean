/- ShareOf in the program. -/
import Derived.Test.YtpjaekofibpgnaaDoorB148
import Derived.Test.YtpjaekofibpgnaaDoorB140
import Derived.Test.YtpjaekofibpgnaaDoorF124
import Derived.ChangeKeysEq
import Derived.Deep.RegionHeld3
import Derived.WalkKit
import Derived.WalkSpells
import Derived.WalkLawsBesides
import Derived.Deep.RegionHeld
namespace Go.Proofs.YtpjaekofibpgnaaDoor
open Go.RowKit
set_option linter.unusedVariables false
/- How much of a round is an owner's, in the program. -/
theorem sm_none {M : Nat → SlT} {n : Nat} {o : Int} (hA : slA M n = true) (ho : nodB o = false) : ∀ k, k ≤ n → smS M o k = 0
  | 0, _ => rfl
  | k + 1, hk => by
    have ih := sm_none hA ho k (by omega)
    have hl := slB_t (slA_at hA (show k < n by omega))
    have hne : ((M k).1 == o) = false := by
      rw [beq_eq_false_iff_ne]
      intro e
      unfold nodB at ho
      simp at ho
      omega
    rw [smS, hne]
    exact ih
theorem sm_first {M : Nat → SlT} {n : Nat} (hA : slA M n = true) (h1 : 1 ≤ n) : ∃ j : Nat, j < 8 ∧ 0 < smS M (j : Int) n := by
  have hl := slB_t (slA_at hA (show 0 < n by omega))
  obtain ⟨j, hj⟩ := Int.eq_ofNat_of_zero_le hl.1.1
  refine ⟨j, by omega, ?_⟩
  have hh : hasO M (j : Int) n = true := by
    have : ∀ k, 1 ≤ k → hasO M (j : Int) k = true := fun k hk => by
      induction k with
      | zero => omega
      | succ k ih =>
        by_cases e : k = 0
        · subst e
          rw [hasO, hj]
          simp
        · rw [hasO, ih (by omega)]
          rfl
    exact this n h1
  rw [← sm_has hA n (Nat.le_refl _)] at hh
  exact of_decide_eq_true hh
theorem infoI13 : ∃ i, Tryd.prog.info? 3 = some i := by
  have h : (Tryd.prog.info? 3).map (fun i => i.size) = some 1 := by kernel_rfl
  obtain ⟨i, hi, _⟩ := Option.map_eq_some_iff.1 h
  exact ⟨i, hi⟩
theorem step8 (d : Nat) (xs ys : Array Value) (x y : Int) (j : Nat) (is : List Nat) (w : World) (hx : xs[j]? = some (.int .i64 x)) (hy : ys[j]? = some (.int .i64 y)) :
    (Op.eqItems (d + 1) 3 1 xs ys (j :: is)).run Tryd.prog w = if x == y then (Op.eqItems (d + 1) 3 1 xs ys is).run Tryd.prog w else .ok false w := by
  simp [Op.eqItems, part, go_sem, hx, hy]
def z8 (X : Nat → Int) : Bool := if X 0 == 0 then (if X 1 == 0 then (if X 2 == 0 then (if X 3 == 0 then (if X 4 == 0 then (if X 5 == 0 then (if X 6 == 0 then (if X 7 == 0 then true else false) else false) else false) else false) else false) else false) else false) else false
theorem eq8 (X : Nat → Int) (w : World) : (Op.equalIn 10000 52 (.agg #[.int .i64 (X 0), .int .i64 (X 1), .int .i64 (X 2), .int .i64 (X 3), .int .i64 (X 4), .int .i64 (X 5), .int .i64 (X 6), .int .i64 (X 7)]) (.agg #[.int .i64 0, .int .i64 0, .int .i64 0, .int .i64 0, .int .i64 0, .int .i64 0, .int .i64 0, .int .i64 0])).run Tryd.prog w = .ok (z8 X) w := by
  obtain ⟨i, hi⟩ := infoI13
  have hc : Tryd.prog.cellsOf 3 = 1 := by kernel_rfl
  have hr : List.range 8 = [0, 1, 2, 3, 4, 5, 6, 7] := by decide
  rw [run_equalIn_array w 9999 _ _ Tryd.underlying52 hi, hc, hr]
  rw [step8 9998 _ _ (X 0) 0 0 _ w rfl rfl, step8 9998 _ _ (X 1) 0 1 _ w rfl rfl, step8 9998 _ _ (X 2) 0 2 _ w rfl rfl, step8 9998 _ _ (X 3) 0 3 _ w rfl rfl, step8 9998 _ _ (X 4) 0 4 _ w rfl rfl, step8 9998 _ _ (X 5) 0 5 _ w rfl rfl, step8 9998 _ _ (X 6) 0 6 _ w rfl rfl, step8 9998 _ _ (X 7) 0 7 _ w rfl rfl]
  have hn : (Op.eqItems (9998 + 1) 3 1 #[.int .i64 (X 0), .int .i64 (X 1), .int .i64 (X 2), .int .i64 (X 3), .int .i64 (X 4), .int .i64 (X 5), .int .i64 (X 6), .int .i64 (X 7)] #[.int .i64 0, .int .i64 0, .int .i64 0, .int .i64 0, .int .i64 0, .int .i64 0, .int .i64 0, .int .i64 0] []).run Tryd.prog w = .ok true w := by simp [Op.eqItems]
  rw [hn]
  unfold z8
  cases (X 0 == 0) <;> cases (X 1 == 0) <;> cases (X 2 == 0) <;> cases (X 3 == 0) <;> cases (X 4 == 0) <;> cases (X 5 == 0) <;> cases (X 6 == 0) <;> cases (X 7 == 0) <;> rfl
theorem z8_no {X : Nat → Int} {j : Nat} (hj : j < 8) (h : X j ≠ 0) : z8 X = false := by
  have hb : (X j == 0) = false := by rw [beq_eq_false_iff_ne]; exact h
  unfold z8
  rcases (show j = 0 ∨ j = 1 ∨ j = 2 ∨ j = 3 ∨ j = 4 ∨ j = 5 ∨ j = 6 ∨ j = 7 by omega) with rfl | rfl | rfl | rfl | rfl | rfl | rfl | rfl <;> rw [hb] <;> simp
set_option maxRecDepth 100000 in
set_option maxHeartbeats 8000000 in
theorem implShareOf_any (s g : Int) (a : Option Addr) (n c : Nat) (M : Nat → SlT) (o : Int) (u : Addr) (w : World) (E : Er w 0 u) (hm : n ≤ maxLen) (hs : SrcC w a (n * 2) (MFSlot M)) :
    Calls Tryd.prog 8 #[.agg #[.int .i64 s, .int .i64 g, .slice a n c], .int .i64 o] w fun e w' => e = .returned (.tuple #[.agg #[.int .i64 (shX s g M n o), .int .i64 (shY s g M n o)], .bool (shB s g M n o)]) ∧ Below w.heap.size w w' := by
  have A0 := Below.nw w (.cells #[.int .i64 s, .int .i64 g, .slice a n c] 32)
  have A1 := Below.nw (w.alloc (.cells #[.int .i64 s, .int .i64 g, .slice a n c] 32)) (.cells #[.int .i64 0, .int .i64 0] 27)
  have N := (Tx3.new w (.int .i64 s) (.int .i64 g) (.slice a n c) 32).below A1
  have R := Bx2.new (w.alloc (.cells #[.int .i64 s, .int .i64 g, .slice a n c] 32)) (.int .i64 0) (.int .i64 0) 27
  have B := A0.trans (A1.mono A0.size)
  simp only [World.size_alloc] at R
  clear A0 A1
  have hj : w.heap.size ≤ w.heap.size + 1 := by omega
  have HS : Hid (SrcC w a (n * 2) (MFSlot M)) := hs
  clear hs
  have C1 := fun w' h => owned_any s g a n c M w' hm h
  cases h1 : plB s g M n
  · obtain ⟨e1, e2, e3⟩ := sh_no (o := o) h1
    rw [e1, e2, e3]
    have e0 : ow8 s g M n = .agg #[.int .i64 0, .int .i64 0, .int .i64 0, .int .i64 0, .int .i64 0, .int .i64 0, .int .i64 0, .int .i64 0] := by unfold ow8 owV; rw [h1]
    rw [e0] at C1
    clear e0 e1 e2 e3
    go_enter Tryd.func8, Tryd.ntmps8; go_upto_region 1 with fail; generalize (w.alloc (.cells #[.int .i64 s, .int .i64 g, .slice a n c] 32)).alloc (.cells #[.int .i64 0, .int .i64 0] 27) = v at *; generalize w.heap.size + 1 = jr at *
    obtain ⟨n0, n1, n2, n3, n4, n5, n6⟩ := id N; go_wp2_with fail; refine (C1 _ (HS.out.below B)).mono ?_; rintro e v1 ⟨rfl, hb⟩; clear n0 n1 n2 n3 n4 n5 n6; replace B := B.trans (hb.mono B.size); replace N := N.below hb; replace R := R.below hb; clear hb
    have NL := Below.nw v1 (.cells #[.int .i64 0, .int .i64 0, .int .i64 0, .int .i64 0, .int .i64 0, .int .i64 0, .int .i64 0, .int .i64 0] 52)
    have Rz := World.rowIs_alloc v1 #[.int .i64 0, .int .i64 0, .int .i64 0, .int .i64 0, .int .i64 0, .int .i64 0, .int .i64 0, .int .i64 0] 52 (fun _ => .int .i64 0) (fun i hi => by match i, hi with | 0, _ => rfl | 1, _ => rfl | 2, _ => rfl | 3, _ => rfl | 4, _ => rfl | 5, _ => rfl | 6, _ => rfl | 7, _ => rfl)
    replace Rz : (v1.alloc (.cells #[.int .i64 0, .int .i64 0, .int .i64 0, .int .i64 0, .int .i64 0, .int .i64 0, .int .i64 0, .int .i64 0] 52)).rowIs v1.heap.size 52 8 (fun _ => .int .i64 0) := Rz
    replace B := B.trans (NL.mono B.size)
    replace R := R.below NL
    clear NL
    go_upto_region 2 with fail
    generalize v1.alloc (.cells #[.int .i64 0, .int .i64 0, .int .i64 0, .int .i64 0, .int .i64 0, .int .i64 0, .int .i64 0, .int .i64 0] 52) = v2 at *
    generalize v1.heap.size = ja at *
    have za0 := Rz.cell (i := 0) (by decide); have za1 := Rz.cell (i := 1) (by decide); have za2 := Rz.cell (i := 2) (by decide); have za3 := Rz.cell (i := 3) (by decide); have za4 := Rz.cell (i := 4) (by decide); have za5 := Rz.cell (i := 5) (by decide); have za6 := Rz.cell (i := 6) (by decide); have za7 := Rz.cell (i := 7) (by decide)
    have hEQ : ∀ w', (Op.equalIn 10000 52 (.agg #[.int .i64 0, .int .i64 0, .int .i64 0, .int .i64 0, .int .i64 0, .int .i64 0, .int .i64 0, .int .i64 0]) (.agg #[.int .i64 0, .int .i64 0, .int .i64 0, .int .i64 0, .int .i64 0, .int .i64 0, .int .i64 0, .int .i64 0])).run Tryd.prog w' = .ok true w' := fun w' => eq8 (fun _ => 0) w'
    have RR := (R.set0 (.int .i64 0)).set1 (.int .i64 0)
    have BB := (B.setCell (p := ⟨jr, 0, none⟩) hj (.int .i64 0)).setCell (p := ⟨jr, 1, none⟩) hj (.int .i64 0)
    obtain ⟨r0, r1, r2, r3, r4⟩ := id R
    go_wp2_with fail
    clear r0 r1 r2 r3 r4
    generalize (v2.setCell ⟨jr, 0, none⟩ (.int .i64 0)).setCell ⟨jr, 1, none⟩ (.int .i64 0) = vz at *
    obtain ⟨r0, r1, r2, r3, r4⟩ := id RR
    exact bodyPost_ret (v := (.tuple #[.agg #[.int .i64 0, .int .i64 0], .bool false])) (by simp (maxDischargeDepth := 6) [results, Tryd.results8, go_sem, *]) rfl ⟨rfl, BB⟩
  obtain ⟨e1, e2, e3⟩ := sh_yes (o := o) h1
  rw [e1, e2, e3]
  obtain ⟨p1, p2, p3, p4⟩ := plB_t h1
  have CR := fun w' h => planRound_any s g a n c M w' h1 h
  have CN := fun w' => isNode_any o w'
  have CF := fun w' E => implFracOf_any (smS M o n) (upS g M n) u w' E
  obtain ⟨j0, hj8, hj0⟩ := sm_first p4 p3.1
  obtain ⟨X, HX⟩ : ∃ X : Nat → Int, Hid (ow8 s g M n = .agg #[.int .i64 (X 0), .int .i64 (X 1), .int .i64 (X 2), .int .i64 (X 3), .int .i64 (X 4), .int .i64 (X 5), .int .i64 (X 6), .int .i64 (X 7)] ∧ ∀ j : Nat, X j = smS M (j : Int) n) := ⟨owV s g M n, rfl, fun j => by unfold owV; rw [h1]⟩
  rw [HX.out.1] at C1
  have HXV : Hid (∀ j : Nat, X j = smS M (j : Int) n) := HX.out.2
  have HNZ : Hid (∃ j, j < 8 ∧ X j ≠ 0) := ⟨j0, hj8, by rw [HXV.out]; omega⟩
  have H0 : Hid (nodB o = false → smS M o n = 0) := fun h => sm_none p4 h n (Nat.le_refl _)
  clear HX e1 e2 e3 p1 p2 p3 p4 hj8 hj0
  generalize foX (smS M o n) (upS g M n) = FX at *
  generalize foY (smS M o n) (upS g M n) = FY at *
  generalize foB (smS M o n) (upS g M n) = FQ at *
  generalize upS g M n = un at *
  go_enter Tryd.func8, Tryd.ntmps8; go_upto_region 1 with fail; generalize (w.alloc (.cells #[.int .i64 s, .int .i64 g, .slice a n c] 32)).alloc (.cells #[.int .i64 0, .int .i64 0] 27) = v at *; generalize w.heap.size + 1 = jr at *
  obtain ⟨n0, n1, n2, n3, n4, n5, n6⟩ := id N; go_wp2_with fail; refine (C1 _ (HS.out.below B)).mono ?_; rintro e v1 ⟨rfl, hb⟩; clear n0 n1 n2 n3 n4 n5 n6; replace B := B.trans (hb.mono B.size); replace N := N.below hb; replace R := R.below hb; clear hb
  clear C1
  have NL := Below.nw v1 (.cells #[.int .i64 (X 0), .int .i64 (X 1), .int .i64 (X 2), .int .i64 (X 3), .int .i64 (X 4), .int .i64 (X 5), .int .i64 (X 6), .int .i64 (X 7)] 52)
  have Rz := World.rowIs_alloc v1 #[.int .i64 (X 0), .int .i64 (X 1), .int .i64 (X 2), .int .i64 (X 3), .int .i64 (X 4), .int .i64 (X 5), .int .i64 (X 6), .int .i64 (X 7)] 52 (fun j => .int .i64 (X j)) (fun i hi => by match i, hi with | 0, _ => rfl | 1, _ => rfl | 2, _ => rfl | 3, _ => rfl | 4, _ => rfl | 5, _ => rfl | 6, _ => rfl | 7, _ => rfl)
  replace Rz : (v1.alloc (.cells #[.int .i64 (X 0), .int .i64 (X 1), .int .i64 (X 2), .int .i64 (X 3), .int .i64 (X 4), .int .i64 (X 5), .int .i64 (X 6), .int .i64 (X 7)] 52)).rowIs v1.heap.size 52 8 (fun j => .int .i64 (X j)) := Rz
  replace B := B.trans (NL.mono B.size)
  replace R := R.below NL
  replace N := N.below NL
  clear NL
  go_upto_region 2 with fail
  generalize v1.alloc (.cells #[.int .i64 (X 0), .int .i64 (X 1), .int .i64 (X 2), .int .i64 (X 3), .int .i64 (X 4), .int .i64 (X 5), .int .i64 (X 6), .int .i64 (X 7)] 52) = v2 at *
  generalize v1.heap.size = ja at *
  have za0 := Rz.cell (i := 0) (by decide); have za1 := Rz.cell (i := 1) (by decide); have za2 := Rz.cell (i := 2) (by decide); have za3 := Rz.cell (i := 3) (by decide); have za4 := Rz.cell (i := 4) (by decide); have za5 := Rz.cell (i := 5) (by decide); have za6 := Rz.cell (i := 6) (by decide); have za7 := Rz.cell (i := 7) (by decide)
  (try dsimp only at za0 za1 za2 za3 za4 za5 za6 za7)
  have hEQ : ∀ w', (Op.equalIn 10000 52 (.agg #[.int .i64 (X 0), .int .i64 (X 1), .int .i64 (X 2), .int .i64 (X 3), .int .i64 (X 4), .int .i64 (X 5), .int .i64 (X 6), .int .i64 (X 7)]) (.agg #[.int .i64 0, .int .i64 0, .int .i64 0, .int .i64 0, .int .i64 0, .int .i64 0, .int .i64 0, .int .i64 0])).run Tryd.prog w' = .ok false w' := fun w' => by
    obtain ⟨j, hj, hx⟩ := HNZ.out
    rw [eq8, z8_no hj hx]
  replace E := E.below B
  have HE : Hid (Er v2 0 u) := E
  clear E
  go_wp2_with fail
  refine (CN _).mono ?_
  rintro e w' ⟨rfl, rfl⟩
  clear hEQ HNZ CN
  cases h2 : nodB o
  · have e0 := H0.out h2
    rw [e0] at CF
    obtain ⟨n0, n1, n2, n3, n4, n5, n6⟩ := id N
    go_wp2_with fail
    refine (CR _ (HS.out.below B)).mono ?_
    rintro e v3 ⟨rfl, hb⟩
    clear n0 n1 n2 n3 n4 n5 n6
    clear za0 za1 za2 za3 za4 za5 za6 za7
    have HE3 := HE.out.below hb
    replace B := B.trans (hb.mono B.size)
    replace R := R.below hb
    clear hb Rz
    go_wp2_with fail
    refine (CF _ HE3).mono ?_
    rintro e v4 ⟨rfl, hb⟩
    replace B := B.trans (hb.mono B.size)
    replace R := R.below hb
    clear hb HE3
    have RR := (R.set0 (.int .i64 FX)).set1 (.int .i64 FY)
    have BB := (B.setCell (p := ⟨jr, 0, none⟩) hj (.int .i64 FX)).setCell (p := ⟨jr, 1, none⟩) hj (.int .i64 FY)
    obtain ⟨r0, r1, r2, r3, r4⟩ := id R
    go_wp2_with fail
    clear r0 r1 r2 r3 r4
    generalize (v4.setCell ⟨jr, 0, none⟩ (.int .i64 FX)).setCell ⟨jr, 1, none⟩ (.int .i64 FY) = vz at *
    obtain ⟨r0, r1, r2, r3, r4⟩ := id RR
    exact bodyPost_ret (v := (.tuple #[.agg #[.int .i64 FX, .int .i64 FY], .bool FQ])) (by simp (maxDischargeDepth := 6) [results, Tryd.results8, go_sem, *]) rfl ⟨rfl, BB⟩
  · have ho : 0 ≤ o ∧ o < 8 := by unfold nodB at h2; simp at h2; omega
    obtain ⟨oN, rfl⟩ := Int.eq_ofNat_of_zero_le ho.1
    have ho8 : oN < 8 := by omega
    have ho9 : (oN : Int) < 8 := ho.2
    have hcell : v2.cell? ⟨ja, oN, none⟩ = some (.int .i64 (X oN)) := Rz.cell ho8
    rw [HXV.out] at hcell
    generalize smS M (oN : Int) n = sm at *
    clear za0 za1 za2 za3 za4 za5 za6 za7
    obtain ⟨n0, n1, n2, n3, n4, n5, n6⟩ := id N
    go_wp2_with fail
    refine (CR _ (HS.out.below B)).mono ?_
    rintro e v3 ⟨rfl, hb⟩
    clear n0 n1 n2 n3 n4 n5 n6
    have HE3 := HE.out.below hb
    replace B := B.trans (hb.mono B.size)
    replace R := R.below hb
    clear hb Rz hcell
    go_wp2_with fail
    refine (CF _ HE3).mono ?_
    rintro e v4 ⟨rfl, hb⟩
    replace B := B.trans (hb.mono B.size)
    replace R := R.below hb
    clear hb HE3
    have RR := (R.set0 (.int .i64 FX)).set1 (.int .i64 FY)
    have BB := (B.setCell (p := ⟨jr, 0, none⟩) hj (.int .i64 FX)).setCell (p := ⟨jr, 1, none⟩) hj (.int .i64 FY)
    obtain ⟨r0, r1, r2, r3, r4⟩ := id R
    go_wp2_with fail
    clear r0 r1 r2 r3 r4
    generalize (v4.setCell ⟨jr, 0, none⟩ (.int .i64 FX)).setCell ⟨jr, 1, none⟩ (.int .i64 FY) = vz at *
    obtain ⟨r0, r1, r2, r3, r4⟩ := id RR
    exact bodyPost_ret (v := (.tuple #[.agg #[.int .i64 FX, .int .i64 FY], .bool FQ])) (by simp (maxDischargeDepth := 6) [results, Tryd.results8, go_sem, *]) rfl ⟨rfl, BB⟩
end Go.Proofs.YtpjaekofibpgnaaDoor
