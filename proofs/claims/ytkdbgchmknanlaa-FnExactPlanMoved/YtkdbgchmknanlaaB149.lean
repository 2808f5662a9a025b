/- PlanMoved in the program. -/
import Derived.Test.YtkdbgchmknanlaaB141
import Derived.Test.YtkdbgchmknanlaaB139
import Derived.Lib.SliceRun
import Derived.Deep.DeepAppendRoom
import Derived.Deep.DeepCutAuto
import Derived.Deep.RegionHeld3
import Derived.WalkKit
import Derived.WalkSpells
import Derived.WalkLawsBesides
import Derived.Deep.RegionHeld
namespace Go.Proofs.Ytkdbgchmknanlaa
open Go.RowKit
set_option linter.unusedVariables false
/- A row of slots, cloned. -/
set_option maxRecDepth 100000 in
set_option maxHeartbeats 4000000 in
theorem clone_any (b off n c : Nat) (M : Nat → SlT) (w : World) (hn : n ≤ 12) (hf : Cs w b off (n * 2) (MFSlot M)) :
    Calls Try.prog 66 #[.slice (some ⟨b, off, none⟩) n c] w fun e w' => ∃ a' c', e = .returned (.slice a' n c') ∧ w'.ownsRow w.heap.size 60 2 (.slice a' n c') n (srow M n) ∧ Below w.heap.size w w' := by
  obtain ⟨i0, hi, hz0, hz1, hz2⟩ := info13_parts
  have qT : ∀ (w : World) (a : Option Addr) (n c n' c' : Nat), (binOp .eql 27 (.slice a n c) (.slice none n' c')).run Try.prog w = .ok (.bool a.isNone) w := fun w a n c n' c' => Lib.run_eql_slice_nil w _ _ a n c n' c' Try.underlying27
  have A := Below.nw w (.cells #[] 60)
  have OW := World.ownsRow_made (base := w.heap.size) (size := 2) (e := 60) w #[] 0 (Nat.le_refl _) (by simp [maxLen]) (by simp)
  have hsz : w.heap.size ≤ (w.alloc (.cells #[] 60)).heap.size := A.size
  have CS := (hf.below A hf.1).srow
  have HCS : Hid (∀ j u, (srow M n)[j]? = some u → (w.alloc (.cells #[] 60)).cell? ((⟨b, off, none⟩ : Addr).add j) = some u) := CS
  clear CS hf
  go_enter Try.func66, Try.ntmps66
  go_wp2_with (at_builtin; refine wpList_append_new rfl _ _ 27 rfl w.heap.size 60 i0 (.agg #[.int .i64 0, .int .i64 0]) 2 16 Try.underlying27 hi hz0 hz1 hz2 rfl (by decide) _ 0 [] rfl OW ⟨b, off, none⟩ n c (srow M n) rfl (srow_len M n) HCS.out (srow_one M n) (by unfold maxLen; omega) (by omega) hsz ?_; intro v' w9 O9 hg9 hn9; (rw [Nat.zero_add, List.nil_append] at O9); (obtain ⟨a', c', rfl, _, _, _⟩ := ownF_src O9); (have B9 := A.trans (grown_belowK OW hg9 hsz)))
  go_ret
  exact ⟨a', c', rfl, O9, B9⟩
/- PlanMoved in the program. -/
set_option maxRecDepth 100000 in
set_option maxHeartbeats 8000000 in
theorem implPlanMoved_any (s g : Int) (a : Option Addr) (n c : Nat) (M : Nat → SlT) (by' : Int) (w : World) (hm : n ≤ maxLen) (hs : SrcC w a (n * 2) (MFSlot M)) :
    Calls Try.prog 39 #[.agg #[.int .i64 s, .int .i64 g, .slice a n c], .int .i64 by'] w fun e w' => ∃ a' c', e = .returned (.tuple #[.agg #[.int .i64 (pmS s g M n by'), .int .i64 (pmG s g M n by'), .slice a' (pmN s g M n by') c'], .bool (pmB s g M n by')]) ∧ w'.ownsRow w.heap.size 60 2 (.slice a' (pmN s g M n by') c') (pmN s g M n by') (srow M (pmN s g M n by')) ∧ Below w.heap.size w w' := by
  have A0 := Below.nw w (.cells #[.int .i64 s, .int .i64 g, .slice a n c] 29)
  have A1 := Below.nw (w.alloc (.cells #[.int .i64 s, .int .i64 g, .slice a n c] 29)) (.cells #[.int .i64 0, .int .i64 0, .slice none 0 0] 29)
  have N := (Tx3.new w (.int .i64 s) (.int .i64 g) (.slice a n c) 29).below A1
  have R := Tx3.new (w.alloc (.cells #[.int .i64 s, .int .i64 g, .slice a n c] 29)) (.int .i64 0) (.int .i64 0) (.slice none 0 0) 29
  have B := A0.trans (A1.mono A0.size)
  simp only [World.size_alloc] at R
  clear A0 A1
  have hj : w.heap.size ≤ w.heap.size + 1 := by omega
  have HS : Hid (SrcC w a (n * 2) (MFSlot M)) := hs
  clear hs
  have C1 := fun w' h => planOk_any s g a n c M w' hm h
  cases h1 : plB s g M n
  · have hB : pmB s g M n by' = false := by unfold pmB; rw [h1]; rfl
    obtain ⟨e1, e2, e3⟩ := pm_no hB
    rw [e1, e2, e3, hB]
    rw [h1] at C1
    clear e1 e2 e3 hB
    go_enter Try.func39, Try.ntmps39; go_upto_region 1 with fail; generalize (w.alloc (.cells #[.int .i64 s, .int .i64 g, .slice a n c] 29)).alloc (.cells #[.int .i64 0, .int .i64 0, .slice none 0 0] 29) = v at *; generalize w.heap.size + 1 = jr at *
    obtain ⟨n0, n1, n2, n3, n4, n5, n6⟩ := id N; go_wp2_with fail; refine (C1 _ (HS.out.below B)).mono ?_; rintro e v1 ⟨rfl, hb⟩; clear n0 n1 n2 n3 n4 n5 n6; replace B := B.trans (hb.mono B.size); replace N := N.below hb; replace R := R.below hb; clear hb
    have RR := ((R.set0 (.int .i64 0)).set1 (.int .i64 0)).set2 (.slice none 0 0); have BB := ((B.setCell (p := ⟨jr, 0, none⟩) hj (.int .i64 0)).setCell (p := ⟨jr, 1, none⟩) hj (.int .i64 0)).setCell (p := ⟨jr, 2, none⟩) hj (.slice none 0 0); obtain ⟨r0, r1, r2, r3, r4, r5, r6⟩ := id R; go_wp2_with fail; clear r0 r1 r2 r3 r4 r5 r6; generalize ((v1.setCell ⟨jr, 0, none⟩ (.int .i64 0)).setCell ⟨jr, 1, none⟩ (.int .i64 0)).setCell ⟨jr, 2, none⟩ (.slice none 0 0) = vz at *; obtain ⟨r0, r1, r2, r3, r4, r5, r6⟩ := id RR; exact bodyPost_ret (v := (.tuple #[.agg #[.int .i64 0, .int .i64 0, .slice none 0 0], .bool false])) (by simp (maxDischargeDepth := 6) [results, Try.results39, go_sem, *]) rfl ⟨none, 0, rfl, World.ownsRow_nil _ _ _ _, BB⟩
  rw [h1] at C1
  by_cases h2 : by' < -1000000000000
  · have hB : pmB s g M n by' = false := by unfold pmB; rw [show inT13 by' = false from decide_eq_false (by omega)]; simp
    obtain ⟨e1, e2, e3⟩ := pm_no hB
    rw [e1, e2, e3, hB]
    clear e1 e2 e3 hB
    go_enter Try.func39, Try.ntmps39; go_upto_region 1 with fail; generalize (w.alloc (.cells #[.int .i64 s, .int .i64 g, .slice a n c] 29)).alloc (.cells #[.int .i64 0, .int .i64 0, .slice none 0 0] 29) = v at *; generalize w.heap.size + 1 = jr at *
    obtain ⟨n0, n1, n2, n3, n4, n5, n6⟩ := id N; go_wp2_with fail; refine (C1 _ (HS.out.below B)).mono ?_; rintro e v1 ⟨rfl, hb⟩; clear n0 n1 n2 n3 n4 n5 n6; replace B := B.trans (hb.mono B.size); replace N := N.below hb; replace R := R.below hb; clear hb
    have RR := ((R.set0 (.int .i64 0)).set1 (.int .i64 0)).set2 (.slice none 0 0); have BB := ((B.setCell (p := ⟨jr, 0, none⟩) hj (.int .i64 0)).setCell (p := ⟨jr, 1, none⟩) hj (.int .i64 0)).setCell (p := ⟨jr, 2, none⟩) hj (.slice none 0 0); obtain ⟨r0, r1, r2, r3, r4, r5, r6⟩ := id R; go_wp2_with fail; clear r0 r1 r2 r3 r4 r5 r6; generalize ((v1.setCell ⟨jr, 0, none⟩ (.int .i64 0)).setCell ⟨jr, 1, none⟩ (.int .i64 0)).setCell ⟨jr, 2, none⟩ (.slice none 0 0) = vz at *; obtain ⟨r0, r1, r2, r3, r4, r5, r6⟩ := id RR; exact bodyPost_ret (v := (.tuple #[.agg #[.int .i64 0, .int .i64 0, .slice none 0 0], .bool false])) (by simp (maxDischargeDepth := 6) [results, Try.results39, go_sem, *]) rfl ⟨none, 0, rfl, World.ownsRow_nil _ _ _ _, BB⟩
  by_cases h3 : 1000000000000 < by'
  · have hB : pmB s g M n by' = false := by unfold pmB; rw [show inT13 by' = false from decide_eq_false (by omega)]; simp
    obtain ⟨e1, e2, e3⟩ := pm_no hB
    rw [e1, e2, e3, hB]
    clear e1 e2 e3 hB
    go_enter Try.func39, Try.ntmps39; go_upto_region 1 with fail; generalize (w.alloc (.cells #[.int .i64 s, .int .i64 g, .slice a n c] 29)).alloc (.cells #[.int .i64 0, .int .i64 0, .slice none 0 0] 29) = v at *; generalize w.heap.size + 1 = jr at *
    obtain ⟨n0, n1, n2, n3, n4, n5, n6⟩ := id N; go_wp2_with fail; refine (C1 _ (HS.out.below B)).mono ?_; rintro e v1 ⟨rfl, hb⟩; clear n0 n1 n2 n3 n4 n5 n6; replace B := B.trans (hb.mono B.size); replace N := N.below hb; replace R := R.below hb; clear hb
    have RR := ((R.set0 (.int .i64 0)).set1 (.int .i64 0)).set2 (.slice none 0 0); have BB := ((B.setCell (p := ⟨jr, 0, none⟩) hj (.int .i64 0)).setCell (p := ⟨jr, 1, none⟩) hj (.int .i64 0)).setCell (p := ⟨jr, 2, none⟩) hj (.slice none 0 0); obtain ⟨r0, r1, r2, r3, r4, r5, r6⟩ := id R; go_wp2_with fail; clear r0 r1 r2 r3 r4 r5 r6; generalize ((v1.setCell ⟨jr, 0, none⟩ (.int .i64 0)).setCell ⟨jr, 1, none⟩ (.int .i64 0)).setCell ⟨jr, 2, none⟩ (.slice none 0 0) = vz at *; obtain ⟨r0, r1, r2, r3, r4, r5, r6⟩ := id RR; exact bodyPost_ret (v := (.tuple #[.agg #[.int .i64 0, .int .i64 0, .slice none 0 0], .bool false])) (by simp (maxDischargeDepth := 6) [results, Try.results39, go_sem, *]) rfl ⟨none, 0, rfl, World.ownsRow_nil _ _ _ _, BB⟩
  obtain ⟨p1, p2, p3, p4⟩ := plB_t h1
  have hw : IntKind.i64.wrap (s + by') = s + by' := Go.IntWalk.i64_in _ ⟨by omega, by omega⟩
  have hx : wrap64 (s + by') = s + by' := Go.IntWalk.wrap64_in _ ⟨by omega, by omega⟩
  have hmv := plB_mv (b := by') h1
  obtain ⟨b, off, rfl, hf⟩ : ∃ b off, a = some ⟨b, off, none⟩ ∧ Cs w b off (n * 2) (MFSlot M) := by
    rcases HS.out with q | q
    · exact absurd q (by omega)
    · exact q
  have HF : Hid (Cs w b off (n * 2) (MFSlot M)) := hf
  have CC := fun w' h => clone_any b off n c M w' p3.2 h
  have C3 := fun (a' : Option Addr) (c' : Nat) w' h => planOk_any (s + by') g a' n c' M w' hm h
  rw [hmv] at C3
  have HB : pmB s g M n by' = okT (s + by') := by unfold pmB; rw [h1, show inT13 by' = true from decide_eq_true (by omega)]; rfl
  have H0 : Hid (pmB s g M n by' = false → pmS s g M n by' = 0 ∧ pmG s g M n by' = 0 ∧ pmN s g M n by' = 0) := pm_no
  have H1 : Hid (pmB s g M n by' = true → pmS s g M n by' = s + by' ∧ pmG s g M n by' = g ∧ pmN s g M n by' = n) := pm_yes
  rw [← HB] at C3
  clear p1 p2 p4 hmv h1 hf HB
  generalize pmS s g M n by' = XS at *
  generalize pmG s g M n by' = XG at *
  generalize pmN s g M n by' = XN at *
  generalize pmB s g M n by' = XB at *
  generalize hsb : s + by' = sb at *
  go_enter Try.func39, Try.ntmps39; go_upto_region 1 with fail; generalize (w.alloc (.cells #[.int .i64 s, .int .i64 g, .slice (some ⟨b, off, none⟩) n c] 29)).alloc (.cells #[.int .i64 0, .int .i64 0, .slice none 0 0] 29) = v at *; generalize w.heap.size + 1 = jr at *
  obtain ⟨n0, n1, n2, n3, n4, n5, n6⟩ := id N; go_wp2_with fail; refine (C1 _ (HS.out.below B)).mono ?_; rintro e v1 ⟨rfl, hb⟩; clear n0 n1 n2 n3 n4 n5 n6; replace B := B.trans (hb.mono B.size); replace N := N.below hb; replace R := R.below hb; clear hb
  clear C1
  have SK : Hid (∀ w', Below v1.heap.size v1 w' → (fun w' => w'.cell? ⟨w.heap.size, 0, none⟩ = some (.int .i64 s) ∧ w'.cell? ⟨w.heap.size, 1, none⟩ = some (.int .i64 g) ∧ w'.cell? ⟨w.heap.size, 2, none⟩ = some (.slice (some ⟨b, off, none⟩) n c)) w') := fun w' hw => ⟨(N.below hw).2.1, (N.below hw).2.2.1, (N.below hw).2.2.2.1⟩
  have hjv : w.heap.size < v1.heap.size := N.1
  have hrv : jr < v1.heap.size := R.1
  obtain ⟨n0, n1, n2, n3, n4, n5, n6⟩ := id N
  go_upto_region 3 with fail
  go_cut [6] (fun s6 wx => ∃ (jz : Nat) (a' : Option Addr) (c' : Nat), s6 = .pointer (some ⟨jz, 0, none⟩) ∧ v1.heap.size ≤ jz ∧ Tx3 wx jz (.int .i64 sb) (.int .i64 g) (.slice a' n c') ∧ wx.ownsRow v1.heap.size 60 2 (.slice a' n c') n (srow M n) ∧ (∀ q, (Value.slice a' n c').ownBlock = some q → q ≠ jz) ∧ Below v1.heap.size v1 wx)
  case first =>
    refine wp_region_held_drew (S := (fun w' => w'.cell? ⟨w.heap.size, 0, none⟩ = some (.int .i64 s) ∧ w'.cell? ⟨w.heap.size, 1, none⟩ = some (.int .i64 g) ∧ w'.cell? ⟨w.heap.size, 2, none⟩ = some (.slice (some ⟨b, off, none⟩) n c))) (by kernel_rfl) ?_ (fun hHeld => ?_)
    · first | exact SK.out _ XB | exact SK.out _ (Below.drew (Below.refl _ _)) | exact SK.out _ XZ
    have XB : Below v1.heap.size v1 v1.drew := Below.drew (Below.refl _ _)
    generalize v1.drew = vx at *
    refine wpAnyH_take (i := 0) (v := ?_) (by rw [List.getElem?_toArray]; rfl) (by kernel_rfl) (by kernel_rfl) (by kernel_rfl) (by intro _ _ _ h; exact h) (Or.inl ⟨by rfl, ?_⟩) (by assumption) ?_
    rotate_left
    · (intro w hSw; (try dsimp only at hSw); go_simp; all_goals with_reducible rfl)
    (try simp only [Act.put, List.setIfInBounds_toArray, List.set_cons_zero, List.set_cons_succ])
    refine wpAnyH_take (i := 1) (v := ?_) (by rw [List.getElem?_toArray]; rfl) (by kernel_rfl) (by kernel_rfl) (by kernel_rfl) (by intro _ _ _ h; exact h) (Or.inl ⟨by rfl, ?_⟩) (by assumption) ?_
    rotate_left
    · (intro w hSw; (try dsimp only at hSw); go_simp; all_goals with_reducible rfl)
    (try simp only [Act.put, List.setIfInBounds_toArray, List.set_cons_zero, List.set_cons_succ])
    refine wpAnyH_take (i := 2) (v := ?_) (by rw [List.getElem?_toArray]; rfl) (by kernel_rfl) (by kernel_rfl) (by kernel_rfl) (by intro _ _ _ h; exact h) (Or.inl ⟨by rfl, ?_⟩) (by assumption) ?_
    rotate_left
    · (intro w hSw; (try dsimp only at hSw); go_simp; all_goals with_reducible rfl)
    (try simp only [Act.put, List.setIfInBounds_toArray, List.set_cons_zero, List.set_cons_succ])
    refine wpAnyH_take (i := 3) (v := ?_) (by rw [List.getElem?_toArray]; rfl) (by kernel_rfl) (by kernel_rfl) (by kernel_rfl) (by intro _ _ _ h; exact h) (Or.inl ⟨by rfl, ?_⟩) (by assumption) ?_
    rotate_left
    · (intro w hSw; (try dsimp only at hSw); go_simp; all_goals with_reducible rfl)
    (try simp only [Act.put, List.setIfInBounds_toArray, List.set_cons_zero, List.set_cons_succ])
    refine wpAnyH_take (i := 4) (v := ?_) (by rw [List.getElem?_toArray]; rfl) (by kernel_rfl) (by kernel_rfl) (by kernel_rfl) (by intro _ _ _ h; exact h) (Or.inl ⟨by rfl, ?_⟩) (by assumption) ?_
    rotate_left
    · (intro w hSw; (try dsimp only at hSw); go_simp; all_goals with_reducible rfl)
    (try simp only [Act.put, List.setIfInBounds_toArray, List.set_cons_zero, List.set_cons_succ])
    refine wpAnyH_take (i := 5) (v := ?_) (by rw [List.getElem?_toArray]; rfl) (by kernel_rfl) (by kernel_rfl) (by kernel_rfl) (by intro _ _ _ h; exact h) (Or.inl ⟨by rfl, ?_⟩) (by assumption) ?_
    rotate_left
    · (intro w hSw; (try dsimp only at hSw); go_simp; all_goals with_reducible rfl)
    (try simp only [Act.put, List.setIfInBounds_toArray, List.set_cons_zero, List.set_cons_succ])
    refine wpAnyH_take (i := 6) (v := ?_) (by rw [List.getElem?_toArray]; rfl) (by kernel_rfl) (by kernel_rfl) (by kernel_rfl) (by intro _ _ _ h; exact h) (Or.inl ⟨by rfl, ?_⟩) (by assumption) ?_
    rotate_left
    · (intro w hSw; (try dsimp only at hSw); go_simp; all_goals with_reducible rfl)
    (try simp only [Act.put, List.setIfInBounds_toArray, List.set_cons_zero, List.set_cons_succ])
    refine wpAnyH_take (i := 7) (v := ?_) (by rw [List.getElem?_toArray]; rfl) (by kernel_rfl) (by kernel_rfl) (by kernel_rfl) (by intro _ _ _ h; exact h) (Or.inl ⟨by rfl, ?_⟩) (by assumption) ?_
    rotate_left
    · (intro w hSw; (try dsimp only at hSw); go_simp; all_goals with_reducible rfl)
    (try simp only [Act.put, List.setIfInBounds_toArray, List.set_cons_zero, List.set_cons_succ])
    refine wpAnyH_ready (rs := [8, 10]) (by kernel_rfl) (by simp) ?_
    refine (AllReadyH.cons (by rw [List.getElem?_toArray]; rfl) (fun K hK => ?_) (AllReadyH.cons (by rw [List.getElem?_toArray]; rfl) (fun K hK => ?_) AllReadyH.nil))
    · go_simp
      refine (CC vx (HF.out.below (B.trans (XB.mono B.size)) HF.out.1)).mono ?_; (have hvx := XB.size); rintro ee vx ⟨a', c', rfl, OW, hbl⟩; (replace XB := XB.trans (hbl.mono XB.size)); (replace OW := own_baseI OW hvx); (clear hbl)
      (try go_wp2_with fail)
      refine hK.out _ _ ?_ (fun hHeld => ?_)
      · first | exact SK.out _ XB | exact SK.out _ (Below.drew (Below.refl _ _)) | exact SK.out _ XZ
      clear hK K
      (try simp only [Act.put, List.setIfInBounds_toArray, List.set_cons_zero, List.set_cons_succ])
      refine wpAnyH_take (i := 9) (v := ?_) (by rw [List.getElem?_toArray]; rfl) (by kernel_rfl) (by kernel_rfl) (by kernel_rfl) (by intro _ _ _ h; exact h) (Or.inl ⟨by rfl, ?_⟩) (by assumption) ?_
      rotate_left
      · (intro w hSw; (try dsimp only at hSw); go_simp; all_goals with_reducible rfl)
      (try simp only [Act.put, List.setIfInBounds_toArray, List.set_cons_zero, List.set_cons_succ])
      refine wpAnyH_ready (rs := [10]) (by kernel_rfl) (by simp) ?_
      refine (AllReadyH.cons (by rw [List.getElem?_toArray]; rfl) (fun K hK => ?_) AllReadyH.nil)
      go_simp
      (have Z := Tx3.new vx (.int .i64 0) (.int .i64 0) (.slice none 0 0) 29); (have NL := Below.nw vx (.cells #[.int .i64 0, .int .i64 0, .slice none 0 0] 29)); (have hzv := XB.size); (replace XB := XB.trans (NL.mono XB.size)); (have hog : ∀ q, (Value.slice a' n c').ownBlock = some q → q ≠ vx.heap.size := fun q hq => Nat.ne_of_lt (World.ownsRow.lt OW q hq).2); (replace OW := own_belK' OW NL); (clear NL); (have hzlt := Z.1); (generalize vx.alloc (.cells #[.int .i64 0, .int .i64 0, .slice none 0 0] 29) = vy at *); (generalize vx.heap.size = jz at *); (have XZ := ((XB.setCell (p := ⟨jz, 0, none⟩) hzv (.int .i64 sb)).setCell (p := ⟨jz, 1, none⟩) hzv (.int .i64 g)).setCell (p := ⟨jz, 2, none⟩) hzv (.slice a' n c')); (have ZZ := ((Z.set0 (.int .i64 sb)).set1 (.int .i64 g)).set2 (.slice a' n c')); (have OZ := own_neK OW (((But.refl jz vy).setCell 0 (.int .i64 sb)).setCell 1 (.int .i64 g) |>.setCell 2 (.slice a' n c')) hog); (obtain ⟨z0, z1, z2, z3, z4, z5, z6⟩ := id Z)
      refine hK.out _ _ ?_ (fun hHeld => ?_)
      · first | exact SK.out _ XB | exact SK.out _ (Below.drew (Below.refl _ _)) | exact SK.out _ XZ
      clear hK K
      (try simp only [Act.put, List.setIfInBounds_toArray, List.set_cons_zero, List.set_cons_succ])
      refine wpAnyH_ready (rs := [11]) (by kernel_rfl) (by simp) ?_
      refine (AllReadyH.cons (by rw [List.getElem?_toArray]; rfl) (fun K hK => ?_) AllReadyH.nil)
      go_simp
      refine hK.out _ _ ?_ (fun hHeld => ?_)
      · first | exact SK.out _ XB | exact SK.out _ (Below.drew (Below.refl _ _)) | exact SK.out _ XZ
      clear hK K
      (try simp only [Act.put, List.setIfInBounds_toArray, List.set_cons_zero, List.set_cons_succ])
      refine wpAnyH_done (by kernel_rfl) ?_ _
      go_wp2_with fail
      go_meet
      case rel => exact ⟨jz, a', c', rfl, hzv, ZZ, OZ, hog, XZ⟩
    · go_simp
      (have Z := Tx3.new vx (.int .i64 0) (.int .i64 0) (.slice none 0 0) 29); (have NL := Below.nw vx (.cells #[.int .i64 0, .int .i64 0, .slice none 0 0] 29)); (have hzv := XB.size); (replace XB := XB.trans (NL.mono XB.size)); (clear NL); (have hzlt := Z.1); (generalize vx.alloc (.cells #[.int .i64 0, .int .i64 0, .slice none 0 0] 29) = vy at *); (generalize vx.heap.size = jz at *)
      refine hK.out _ _ ?_ (fun hHeld => ?_)
      · first | exact SK.out _ XB | exact SK.out _ (Below.drew (Below.refl _ _)) | exact SK.out _ XZ
      clear hK K
      (try simp only [Act.put, List.setIfInBounds_toArray, List.set_cons_zero, List.set_cons_succ])
      refine wpAnyH_ready (rs := [8]) (by kernel_rfl) (by simp) ?_
      refine (AllReadyH.cons (by rw [List.getElem?_toArray]; rfl) (fun K hK => ?_) AllReadyH.nil)
      go_simp
      refine (CC vy (HF.out.below (B.trans (XB.mono B.size)) HF.out.1)).mono ?_; (have hvx := XB.size); rintro ee vx ⟨a', c', rfl, OW, hbl⟩; (replace XB := XB.trans (hbl.mono XB.size)); (replace Z := Z.below hbl); (have hog : ∀ q, (Value.slice a' n c').ownBlock = some q → q ≠ jz := fun q hq => by have := (World.ownsRow.lt OW q hq).1; omega); (replace OW := own_baseI OW hvx); (clear hbl); (have XZ := ((XB.setCell (p := ⟨jz, 0, none⟩) hzv (.int .i64 sb)).setCell (p := ⟨jz, 1, none⟩) hzv (.int .i64 g)).setCell (p := ⟨jz, 2, none⟩) hzv (.slice a' n c')); (have ZZ := ((Z.set0 (.int .i64 sb)).set1 (.int .i64 g)).set2 (.slice a' n c')); (have OZ := own_neK OW (((But.refl jz vx).setCell 0 (.int .i64 sb)).setCell 1 (.int .i64 g) |>.setCell 2 (.slice a' n c')) hog); (obtain ⟨z0, z1, z2, z3, z4, z5, z6⟩ := id Z)
      (try go_wp2_with fail)
      refine hK.out _ _ ?_ (fun hHeld => ?_)
      · first | exact SK.out _ XB | exact SK.out _ (Below.drew (Below.refl _ _)) | exact SK.out _ XZ
      clear hK K
      (try simp only [Act.put, List.setIfInBounds_toArray, List.set_cons_zero, List.set_cons_succ])
      refine wpAnyH_take (i := 9) (v := ?_) (by rw [List.getElem?_toArray]; rfl) (by kernel_rfl) (by kernel_rfl) (by kernel_rfl) (by intro _ _ _ h; exact h) (Or.inl ⟨by rfl, ?_⟩) (by assumption) ?_
      rotate_left
      · (intro w hSw; (try dsimp only at hSw); go_simp; all_goals with_reducible rfl)
      (try simp only [Act.put, List.setIfInBounds_toArray, List.set_cons_zero, List.set_cons_succ])
      refine wpAnyH_ready (rs := [11]) (by kernel_rfl) (by simp) ?_
      refine (AllReadyH.cons (by rw [List.getElem?_toArray]; rfl) (fun K hK => ?_) AllReadyH.nil)
      go_simp
      refine hK.out _ _ ?_ (fun hHeld => ?_)
      · first | exact SK.out _ XB | exact SK.out _ (Below.drew (Below.refl _ _)) | exact SK.out _ XZ
      clear hK K
      (try simp only [Act.put, List.setIfInBounds_toArray, List.set_cons_zero, List.set_cons_succ])
      refine wpAnyH_done (by kernel_rfl) ?_ _
      go_wp2_with fail
      go_meet
      case rel => exact ⟨jz, a', c', rfl, hzv, ZZ, OZ, hog, XZ⟩
  case rest =>
    obtain ⟨jz, a', c', rfl, hzv, Z, OW, hog, XB'⟩ := hcut
    clear n0 n1 n2 n3 n4 n5 n6
    replace B := B.trans (XB'.mono B.size)
    replace R := R.below XB'
    clear XB' SK N CC
    have hzr : jz ≠ jr := by omega
    have hogr : ∀ q, (Value.slice a' n c').ownBlock = some q → q ≠ jr := fun q hq e => by have := (World.ownsRow.lt OW q hq).1; omega
    generalize wc = v4 at *
    obtain ⟨z0, z1, z2, z3, z4, z5, z6⟩ := id Z
    go_wp2_with fail
    refine (C3 a' c' _ (ownS OW)).mono ?_
    rintro e v5 ⟨rfl, hb⟩
    clear z0 z1 z2 z3 z4 z5 z6
    replace Z := Z.below hb
    replace R := R.below hb
    replace OW := own_belK' OW hb
    replace B := B.trans (hb.mono B.size)
    clear hb C3
    cases XB
    · obtain ⟨rfl, rfl, rfl⟩ := H0.out rfl
      have RR := ((R.set0 (.int .i64 0)).set1 (.int .i64 0)).set2 (.slice none 0 0); have BB := ((B.setCell (p := ⟨jr, 0, none⟩) hj (.int .i64 0)).setCell (p := ⟨jr, 1, none⟩) hj (.int .i64 0)).setCell (p := ⟨jr, 2, none⟩) hj (.slice none 0 0); obtain ⟨r0, r1, r2, r3, r4, r5, r6⟩ := id R; go_wp2_with fail; clear r0 r1 r2 r3 r4 r5 r6; generalize ((v5.setCell ⟨jr, 0, none⟩ (.int .i64 0)).setCell ⟨jr, 1, none⟩ (.int .i64 0)).setCell ⟨jr, 2, none⟩ (.slice none 0 0) = vz at *; obtain ⟨r0, r1, r2, r3, r4, r5, r6⟩ := id RR; exact bodyPost_ret (v := (.tuple #[.agg #[.int .i64 0, .int .i64 0, .slice none 0 0], .bool false])) (by simp (maxDischargeDepth := 6) [results, Try.results39, go_sem, *]) rfl ⟨none, 0, rfl, World.ownsRow_nil _ _ _ _, BB⟩
    · obtain ⟨rfl, rfl, rfl⟩ := H1.out rfl
      have O6 := own_neK OW (((But.refl jr v5).setCell 0 (.int .i64 XS)).setCell 1 (.int .i64 XG) |>.setCell 2 (.slice a' XN c')) hogr
      have RR := ((R.set0 (.int .i64 XS)).set1 (.int .i64 XG)).set2 (.slice a' XN c')
      have BB := ((B.setCell (p := ⟨jr, 0, none⟩) hj (.int .i64 XS)).setCell (p := ⟨jr, 1, none⟩) hj (.int .i64 XG)).setCell (p := ⟨jr, 2, none⟩) hj (.slice a' XN c')
      obtain ⟨z0, z1, z2, z3, z4, z5, z6⟩ := id Z
      obtain ⟨r0, r1, r2, r3, r4, r5, r6⟩ := id R
      go_wp2_with fail
      clear r0 r1 r2 r3 r4 r5 r6 z0 z1 z2 z3 z4 z5 z6
      generalize ((v5.setCell ⟨jr, 0, none⟩ (.int .i64 XS)).setCell ⟨jr, 1, none⟩ (.int .i64 XG)).setCell ⟨jr, 2, none⟩ (.slice a' XN c') = vz at *
      obtain ⟨r0, r1, r2, r3, r4, r5, r6⟩ := id RR
      exact bodyPost_ret (v := (.tuple #[.agg #[.int .i64 XS, .int .i64 XG, .slice a' XN c'], .bool true])) (by simp (maxDischargeDepth := 6) [results, Try.results39, go_sem, *]) rfl ⟨a', c', rfl, own_baseI O6 (Nat.le_of_lt hjv), BB⟩
end Go.Proofs.Ytkdbgchmknanlaa
