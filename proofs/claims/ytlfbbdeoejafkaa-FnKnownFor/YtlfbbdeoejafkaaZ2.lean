/- What DrawKnownFor and DrawNarrow leave. -/
import Derived.Test.YtlfbbdeoejafkaaZ1
import Derived.Test.YtlfbbdeoejafkaaQ2
import Derived.Deep.RegionHeld3
import Derived.Deep.DeepCutAuto
import Derived.WalkKit
import Derived.WalkSpells
import Derived.WalkLawsBesides
import Derived.Deep.RegionHeld
import Derived.Deep.RegionHeld3
namespace Go.Proofs.Ytlfbbdeoejafkaa
open Go.RowKit
set_option linter.unusedVariables false
set_option maxRecDepth 100000 in
set_option maxHeartbeats 4000000 in
theorem DrawKnownFor_any (a0 : Option Addr) (n0 c0 : Nat) (w : World) (hn : n0 ≤ 1048576) (hcode : CodeB w w.heap.size a0 n0) :
    Calls Try.prog 20 #[.slice a0 n0 c0] w fun e w' => ∃ (kn : Bool) (lo hi a n d m : Int), e = .returned (.tuple #[.agg #[.bool kn, .int .i64 lo, .int .i64 hi, .int .i64 a], .agg #[.int .i64 n, .int .i64 d], .int .i64 m]) ∧ Below w.heap.size w w' := by
  have R := ((BoxL.new w false 0 0 0 39).alloc (.cells #[.int .i64 0, .int .i64 0] 25))
  have D := (Bx.new (w.alloc (.cells #[.bool false, .int .i64 0, .int .i64 0, .int .i64 0] 39)) 0 0 25)
  have b : Below w.heap.size w ((w.alloc (.cells #[.bool false, .int .i64 0, .int .i64 0, .int .i64 0] 39)).alloc (.cells #[.int .i64 0, .int .i64 0] 25)) := (Below.al _ _).alloc (by first | (simp; done) | (simp; omega) | omega) _
  simp only [World.size_alloc] at D
  have HC : Hid (CodeB ((w.alloc (.cells #[.bool false, .int .i64 0, .int .i64 0, .int .i64 0] 39)).alloc (.cells #[.int .i64 0, .int .i64 0] 25)) ((w.alloc (.cells #[.bool false, .int .i64 0, .int .i64 0, .int .i64 0] 39)).alloc (.cells #[.int .i64 0, .int .i64 0] 25)).heap.size a0 n0) := (hcode.below b).more b.size
  clear hcode
  go_enter Try.func20, Try.ntmps20
  go_wp2_with fail
  refine (l1New_any a0 n0 c0 _ hn HC.out).mono ?_
  rintro e v ⟨p, rfl, c, hb⟩
  replace b := b.trans (hb.mono b.size)
  replace R := R.below hb
  replace D := D.below hb
  skip
  have q := c.lt
  simp only [World.size_alloc] at q
  have hpw : w.heap.size ≠ p := by omega
  have hpw1 : w.heap.size + 1 ≠ p := by omega
  skip
  have hwp : w.heap.size ≤ p := by omega
  clear HC hb
  generalize ((w.alloc (.cells #[.bool false, .int .i64 0, .int .i64 0, .int .i64 0] 39)).alloc (.cells #[.int .i64 0, .int .i64 0] 25)).heap.size = B at *
  go_wp2_with fail
  refine (l6DrawLocal_any B p _ c).mono ?_
  rintro e v2 ⟨kn, lo, hi, a, rfl, c2, hb⟩
  replace b := b.trans (hb.below hwp b.size)
  replace R := R.but hb hpw
  replace D := D.butD hb hpw1
  skip
  clear hb c
  have A2 := Below.al v2 (.cells #[.bool kn, .int .i64 lo, .int .i64 hi, .int .i64 a] 39)
  have N := BoxL.new v2 kn lo hi a 39
  have q2 := c2.lt
  have hk1 : v2.heap.size ≠ p := by omega
  have hwk : w.heap.size + 1 < v2.heap.size := D.1
  replace b := b.trans (A2.mono b.size)
  replace R := R.below A2
  replace D := D.below A2
  skip
  replace c2 := c2.below A2
  clear A2
  go_wp2_with fail
  generalize v2.heap.size = k1 at *
  generalize v2.alloc (.cells #[.bool kn, .int .i64 lo, .int .i64 hi, .int .i64 a] 39) = v3 at *
  refine (l6DrawDrift_any B p _ c2).mono ?_
  rintro e v4 ⟨n, d, rfl, c4, hb⟩
  replace b := b.trans (hb.below hwp b.size)
  replace R := R.but hb hpw
  replace D := D.butD hb hpw1
  skip
  replace N := N.but hb hk1
  clear hb c2
  have A4 := Below.al v4 (.cells #[.int .i64 n, .int .i64 d] 25)
  have M := Bx.new v4 n d 25
  have q4 := c4.lt
  have hk2 : v4.heap.size ≠ p := by omega
  have hkk : k1 < v4.heap.size := N.1
  replace b := b.trans (A4.mono b.size)
  replace R := R.below A4
  replace D := D.below A4
  skip
  replace N := N.below A4
  replace c4 := c4.below A4
  clear A4
  skip
  go_wp2_with fail
  skip
  generalize v4.heap.size = k2 at *
  generalize v4.alloc (.cells #[.int .i64 n, .int .i64 d] 25) = v at *
  have c := c4
  clear c4
  have s1 : w.heap.size ≠ k1 := by omega
  have s2 : w.heap.size ≠ k2 := by omega
  have s3 : w.heap.size + 1 ≠ k1 := by omega
  have s4 : w.heap.size + 1 ≠ k2 := by omega
  have s5 : k1 ≠ k2 := by omega
  have s6 : k1 ≠ w.heap.size := by omega
  have s7 : k2 ≠ w.heap.size := by omega
  have s8 : k1 ≠ w.heap.size + 1 := by omega
  have s9 : k2 ≠ w.heap.size + 1 := by omega
  have s10 : k2 ≠ k1 := by omega
  (obtain ⟨r0, r1, r2, r3, r4, r5, r6, r7, r8⟩ := id R); (obtain ⟨d0, d1, d2, d3, d4⟩ := id D); (obtain ⟨n0, n1, n2, n3, n4, n5, n6, n7, n8⟩ := id N); (obtain ⟨m0, m1, m2, m3, m4⟩ := id M)
  refine wp_region_held_drew (S := (fun w' => w'.cell? ⟨k1, 0, none⟩ = some (.bool kn) ∧ w'.cell? ⟨k1, 1, none⟩ = some (.int .i64 lo) ∧ w'.cell? ⟨k1, 2, none⟩ = some (.int .i64 hi) ∧ w'.cell? ⟨k1, 3, none⟩ = some (.int .i64 a) ∧ w'.cell? ⟨k2, 0, none⟩ = some (.int .i64 n) ∧ w'.cell? ⟨k2, 1, none⟩ = some (.int .i64 d))) (by kernel_rfl) ?_ (fun hHeld => ?_)
  · simp (maxDischargeDepth := 6) [go_sem, *]
  clear r0 r1 r2 r3 r4 r5 r6 r7 r8 d0 d1 d2 d3 d4 n0 n1 n2 n3 n4 n5 n6 n7 n8 m0 m1 m2 m3 m4
  replace R := R.drew
  replace D := D.drew
  replace N := N.drew
  replace M := M.drew
  replace b := b.drew
  replace c := CurOk.drew c
  generalize v.drew = v at *
  (obtain ⟨r0, r1, r2, r3, r4, r5, r6, r7, r8⟩ := id R); (obtain ⟨d0, d1, d2, d3, d4⟩ := id D); (obtain ⟨n0, n1, n2, n3, n4, n5, n6, n7, n8⟩ := id N); (obtain ⟨m0, m1, m2, m3, m4⟩ := id M)
  refine wpAnyH_take (i := 0) (v := ?_) (by rw [List.getElem?_toArray]; rfl) (by kernel_rfl) (by kernel_rfl) (by kernel_rfl) (by intro _ _ _ h; exact h) (Or.inl ⟨by rfl, ?_⟩) (by assumption) ?_
  rotate_left
  · (intro w hSw; (try dsimp only at hSw); go_simp; all_goals with_reducible rfl)
  (try simp only [Act.put, List.setIfInBounds_toArray, List.set_cons_zero, List.set_cons_succ])
  refine wpAnyH_take (i := 1) (v := ?_) (by rw [List.getElem?_toArray]; rfl) (by kernel_rfl) (by kernel_rfl) (by kernel_rfl) (by intro _ _ _ h; exact h) (Or.inl ⟨by rfl, ?_⟩) (by assumption) ?_
  rotate_left
  · (intro w hSw; (try dsimp only at hSw); go_simp; all_goals with_reducible rfl)
  (try simp only [Act.put, List.setIfInBounds_toArray, List.set_cons_zero, List.set_cons_succ])
  refine wpAnyH_take (i := 2) (v := ?_) (by rw [List.getElem?_toArray]; rfl) (by kernel_rfl) (by kernel_rfl) (by kernel_rfl) (by intro _ _ _ h; exact h) (Or.inl ⟨by rfl, ?_⟩) (by assumption) ?_
  rotate_left
  · (intro w hSw; (try dsimp only at hSw); go_simp; all_goals with_reducible rfl)
  (try simp only [Act.put, List.setIfInBounds_toArray, List.set_cons_zero, List.set_cons_succ])
  refine wpAnyH_take (i := 4) (v := ?_) (by rw [List.getElem?_toArray]; rfl) (by kernel_rfl) (by kernel_rfl) (by kernel_rfl) (by intro _ _ _ h; exact h) (Or.inl ⟨by rfl, ?_⟩) (by assumption) ?_
  rotate_left
  · (intro w hSw; (try dsimp only at hSw); go_simp; all_goals with_reducible rfl)
  (try simp only [Act.put, List.setIfInBounds_toArray, List.set_cons_zero, List.set_cons_succ])
  refine wpAnyH_ready (rs := [3]) (by kernel_rfl) (by simp) ?_
  refine AllReadyH.cons (by rw [List.getElem?_toArray]; rfl) (fun K hK => ?_) AllReadyH.nil
  go_simp
  refine (l1Below_any B p 300 _ c).mono ?_; rintro e v ⟨x, rfl, xl, xh, xp, xz, c', hb⟩; (replace c := c'); clear xp xz; clear r0 r1 r2 r3 r4 r5 r6 r7 r8 d0 d1 d2 d3 d4 n0 n1 n2 n3 n4 n5 n6 n7 n8 m0 m1 m2 m3 m4; (replace b := b.trans (hb.below hwp b.size)); (replace R := R.but hb hpw); (replace D := D.butD hb hpw1); (replace N := N.but hb hk1); (replace M := M.butD hb hk2); clear hb; (obtain ⟨r0, r1, r2, r3, r4, r5, r6, r7, r8⟩ := id R); (obtain ⟨d0, d1, d2, d3, d4⟩ := id D); (obtain ⟨n0, n1, n2, n3, n4, n5, n6, n7, n8⟩ := id N); (obtain ⟨m0, m1, m2, m3, m4⟩ := id M)
  (try go_wp2_with fail)
  refine hK.out _ _ ?_ (fun hHeld => ?_)
  · simp (maxDischargeDepth := 6) [go_sem, *]
  clear hK K
  (try simp only [Act.put, List.setIfInBounds_toArray, List.set_cons_zero, List.set_cons_succ])
  refine wpAnyH_ready (rs := [5]) (by kernel_rfl) (by simp) ?_
  refine AllReadyH.cons (by rw [List.getElem?_toArray]; rfl) (fun K hK => ?_) AllReadyH.nil
  go_simp
  refine (l1Below_any B p 12 _ c).mono ?_; rintro e v ⟨y, rfl, yl, yh, yp, yz, c', hb⟩; (replace c := c'); clear yp yz; clear r0 r1 r2 r3 r4 r5 r6 r7 r8 d0 d1 d2 d3 d4 n0 n1 n2 n3 n4 n5 n6 n7 n8 m0 m1 m2 m3 m4; (replace b := b.trans (hb.below hwp b.size)); (replace R := R.but hb hpw); (replace D := D.butD hb hpw1); (replace N := N.but hb hk1); (replace M := M.butD hb hk2); clear hb; (obtain ⟨r0, r1, r2, r3, r4, r5, r6, r7, r8⟩ := id R); (obtain ⟨d0, d1, d2, d3, d4⟩ := id D); (obtain ⟨n0, n1, n2, n3, n4, n5, n6, n7, n8⟩ := id N); (obtain ⟨m0, m1, m2, m3, m4⟩ := id M)
  (try go_wp2_with fail)
  refine hK.out _ _ ?_ (fun hHeld => ?_)
  · simp (maxDischargeDepth := 6) [go_sem, *]
  clear hK K
  (try simp only [Act.put, List.setIfInBounds_toArray, List.set_cons_zero, List.set_cons_succ])
  refine wpAnyH_take (i := 6) (v := ?_) (by rw [List.getElem?_toArray]; rfl) (by kernel_rfl) (by kernel_rfl) (by kernel_rfl) (by intro _ _ _ h; exact h) (Or.inl ⟨by rfl, ?_⟩) (by assumption) ?_
  rotate_left
  · (intro w hSw; (try dsimp only at hSw); go_simp; all_goals with_reducible rfl)
  (try simp only [Act.put, List.setIfInBounds_toArray, List.set_cons_zero, List.set_cons_succ])
  refine wpAnyH_take (i := 7) (v := ?_) (by rw [List.getElem?_toArray]; rfl) (by kernel_rfl) (by kernel_rfl) (by kernel_rfl) (by intro _ _ _ h; exact h) (Or.inl ⟨by rfl, ?_⟩) (by assumption) ?_
  rotate_left
  · (intro w hSw; (try dsimp only at hSw); go_simp; all_goals with_reducible rfl)
  (try simp only [Act.put, List.setIfInBounds_toArray, List.set_cons_zero, List.set_cons_succ])
  refine wpAnyH_ready (rs := [8]) (by kernel_rfl) (by simp) ?_
  refine AllReadyH.cons (by rw [List.getElem?_toArray]; rfl) (fun K hK => ?_) AllReadyH.nil
  go_simp
  refine hK.out _ _ ?_ (fun hHeld => ?_)
  · simp (maxDischargeDepth := 6) [go_sem, *]
  clear hK K
  (try simp only [Act.put, List.setIfInBounds_toArray, List.set_cons_zero, List.set_cons_succ])
  refine wpAnyH_ready (rs := [9]) (by kernel_rfl) (by simp) ?_
  refine AllReadyH.cons (by rw [List.getElem?_toArray]; rfl) (fun K hK => ?_) AllReadyH.nil
  go_simp
  refine hK.out _ _ ?_ (fun hHeld => ?_)
  · simp (maxDischargeDepth := 6) [go_sem, *]
  clear hK K
  (try simp only [Act.put, List.setIfInBounds_toArray, List.set_cons_zero, List.set_cons_succ])
  refine wpAnyH_take (i := 10) (v := ?_) (by rw [List.getElem?_toArray]; rfl) (by kernel_rfl) (by kernel_rfl) (by kernel_rfl) (by intro _ _ _ h; exact h) (Or.inl ⟨by rfl, ?_⟩) (by assumption) ?_
  rotate_left
  · (intro w hSw; (try dsimp only at hSw); go_simp; all_goals with_reducible rfl)
  (try simp only [Act.put, List.setIfInBounds_toArray, List.set_cons_zero, List.set_cons_succ])
  refine wpAnyH_done (by kernel_rfl) ?_ _
  go_wp2_with fail
  exact bodyPost_ret (v := .tuple #[.agg #[.bool kn, .int .i64 lo, .int .i64 hi, .int .i64 a], .agg #[.int .i64 n, .int .i64 d], .int .i64 (IntKind.i64.wrap (x - IntKind.i64.wrap (y.tdiv 11)))]) (by simp (maxDischargeDepth := 6) [results, Try.results20, go_sem, *]) rfl ⟨kn, lo, hi, a, n, d, _, rfl, Below.setI (Below.setL b (Nat.le_refl _) kn lo hi a) (by omega) n d⟩
set_option maxRecDepth 100000 in
set_option maxHeartbeats 4000000 in
theorem DrawNarrow_any (a0 : Option Addr) (n0 c0 : Nat) (w : World) (hn : n0 ≤ 1048576) (hcode : CodeB w w.heap.size a0 n0) :
    Calls Try.prog 15 #[.slice a0 n0 c0] w fun e w' => ∃ (kn : Bool) (lo hi a n d m x y : Int), e = .returned (.tuple #[.agg #[.bool kn, .int .i64 lo, .int .i64 hi, .int .i64 a], .agg #[.int .i64 n, .int .i64 d], .int .i64 m, .agg #[.int .i64 x, .int .i64 y]]) ∧ Below w.heap.size w w' := by
  have R := ((BoxL.new w false 0 0 0 39).alloc (.cells #[.int .i64 0, .int .i64 0] 25)).alloc (.cells #[.int .i64 0, .int .i64 0] 35)
  have D := (Bx.new (w.alloc (.cells #[.bool false, .int .i64 0, .int .i64 0, .int .i64 0] 39)) 0 0 25).alloc (.cells #[.int .i64 0, .int .i64 0] 35)
  have V := Bx.new ((w.alloc (.cells #[.bool false, .int .i64 0, .int .i64 0, .int .i64 0] 39)).alloc (.cells #[.int .i64 0, .int .i64 0] 25)) 0 0 35
  have b : Below w.heap.size w (((w.alloc (.cells #[.bool false, .int .i64 0, .int .i64 0, .int .i64 0] 39)).alloc (.cells #[.int .i64 0, .int .i64 0] 25)).alloc (.cells #[.int .i64 0, .int .i64 0] 35)) := ((Below.al _ _).alloc (by first | (simp; done) | (simp; omega) | omega) _).alloc (by first | (simp; done) | (simp; omega) | omega) _
  simp only [World.size_alloc] at D V
  have HC : Hid (CodeB (((w.alloc (.cells #[.bool false, .int .i64 0, .int .i64 0, .int .i64 0] 39)).alloc (.cells #[.int .i64 0, .int .i64 0] 25)).alloc (.cells #[.int .i64 0, .int .i64 0] 35)) (((w.alloc (.cells #[.bool false, .int .i64 0, .int .i64 0, .int .i64 0] 39)).alloc (.cells #[.int .i64 0, .int .i64 0] 25)).alloc (.cells #[.int .i64 0, .int .i64 0] 35)).heap.size a0 n0) := (hcode.below b).more b.size
  clear hcode
  go_enter Try.func15, Try.ntmps15
  go_wp2_with fail
  refine (l1New_any a0 n0 c0 _ hn HC.out).mono ?_
  rintro e v ⟨p, rfl, c, hb⟩
  replace b := b.trans (hb.mono b.size)
  replace R := R.below hb
  replace D := D.below hb
  replace V := V.below hb
  have q := c.lt
  simp only [World.size_alloc] at q
  have hpw : w.heap.size ≠ p := by omega
  have hpw1 : w.heap.size + 1 ≠ p := by omega
  have hpw2 : w.heap.size + 1 + 1 ≠ p := by omega
  have hwp : w.heap.size ≤ p := by omega
  clear HC hb
  generalize (((w.alloc (.cells #[.bool false, .int .i64 0, .int .i64 0, .int .i64 0] 39)).alloc (.cells #[.int .i64 0, .int .i64 0] 25)).alloc (.cells #[.int .i64 0, .int .i64 0] 35)).heap.size = B at *
  go_wp2_with fail
  refine (l6DrawLocal_any B p _ c).mono ?_
  rintro e v2 ⟨kn, lo, hi, a, rfl, c2, hb⟩
  replace b := b.trans (hb.below hwp b.size)
  replace R := R.but hb hpw
  replace D := D.butD hb hpw1
  replace V := V.butD hb hpw2
  clear hb c
  have A2 := Below.al v2 (.cells #[.bool kn, .int .i64 lo, .int .i64 hi, .int .i64 a] 39)
  have N := BoxL.new v2 kn lo hi a 39
  have q2 := c2.lt
  have hk1 : v2.heap.size ≠ p := by omega
  have hwk : w.heap.size + 1 + 1 < v2.heap.size := V.1
  replace b := b.trans (A2.mono b.size)
  replace R := R.below A2
  replace D := D.below A2
  replace V := V.below A2
  replace c2 := c2.below A2
  clear A2
  go_wp2_with fail
  generalize v2.heap.size = k1 at *
  generalize v2.alloc (.cells #[.bool kn, .int .i64 lo, .int .i64 hi, .int .i64 a] 39) = v3 at *
  refine (l6DrawDrift_any B p _ c2).mono ?_
  rintro e v4 ⟨n, d, rfl, c4, hb⟩
  replace b := b.trans (hb.below hwp b.size)
  replace R := R.but hb hpw
  replace D := D.butD hb hpw1
  replace V := V.butD hb hpw2
  replace N := N.but hb hk1
  clear hb c2
  have A4 := Below.al v4 (.cells #[.int .i64 n, .int .i64 d] 25)
  have M := Bx.new v4 n d 25
  have q4 := c4.lt
  have hk2 : v4.heap.size ≠ p := by omega
  have hkk : k1 < v4.heap.size := N.1
  replace b := b.trans (A4.mono b.size)
  replace R := R.below A4
  replace D := D.below A4
  replace V := V.below A4
  replace N := N.below A4
  replace c4 := c4.below A4
  clear A4
  (obtain ⟨r0, r1, r2, r3, r4, r5, r6, r7, r8⟩ := id R); (obtain ⟨d0, d1, d2, d3, d4⟩ := id D); (obtain ⟨u0, u1, u2, u3, u4⟩ := id V); (obtain ⟨n0, n1, n2, n3, n4, n5, n6, n7, n8⟩ := id N); (obtain ⟨m0, m1, m2, m3, m4⟩ := id M)
  go_wp2_with fail
  clear r0 r1 r2 r3 r4 r5 r6 r7 r8 d0 d1 d2 d3 d4 u0 u1 u2 u3 u4 n0 n1 n2 n3 n4 n5 n6 n7 n8 m0 m1 m2 m3 m4
  generalize v4.heap.size = k2 at *
  generalize v4.alloc (.cells #[.int .i64 n, .int .i64 d] 25) = v at *
  have c := c4
  clear c4
  have s1 : w.heap.size ≠ k1 := by omega
  have s2 : w.heap.size ≠ k2 := by omega
  have s3 : w.heap.size + 1 ≠ k1 := by omega
  have s4 : w.heap.size + 1 ≠ k2 := by omega
  have s5 : k1 ≠ k2 := by omega
  have s6 : k1 ≠ w.heap.size := by omega
  have s7 : k2 ≠ w.heap.size := by omega
  have s8 : k1 ≠ w.heap.size + 1 := by omega
  have s9 : k2 ≠ w.heap.size + 1 := by omega
  have s10 : k2 ≠ k1 := by omega
  have s11 : w.heap.size + 1 + 1 ≠ k1 := by omega
  have s12 : w.heap.size + 1 + 1 ≠ k2 := by omega
  have s13 : k1 ≠ w.heap.size + 1 + 1 := by omega
  have s14 : k2 ≠ w.heap.size + 1 + 1 := by omega
  refine (l6DrawCount_any B p a _ c).mono ?_
  rintro e v ⟨m, rfl, c', hb⟩
  replace c := c'
  (obtain ⟨r0, r1, r2, r3, r4, r5, r6, r7, r8⟩ := id R); (obtain ⟨d0, d1, d2, d3, d4⟩ := id D); (obtain ⟨u0, u1, u2, u3, u4⟩ := id V); (obtain ⟨n0, n1, n2, n3, n4, n5, n6, n7, n8⟩ := id N); (obtain ⟨m0, m1, m2, m3, m4⟩ := id M)
  clear r0 r1 r2 r3 r4 r5 r6 r7 r8 d0 d1 d2 d3 d4 u0 u1 u2 u3 u4 n0 n1 n2 n3 n4 n5 n6 n7 n8 m0 m1 m2 m3 m4; (replace b := b.trans (hb.below hwp b.size)); (replace R := R.but hb hpw); (replace D := D.butD hb hpw1); (replace V := V.butD hb hpw2); (replace N := N.but hb hk1); (replace M := M.butD hb hk2); clear hb; (obtain ⟨r0, r1, r2, r3, r4, r5, r6, r7, r8⟩ := id R); (obtain ⟨d0, d1, d2, d3, d4⟩ := id D); (obtain ⟨u0, u1, u2, u3, u4⟩ := id V); (obtain ⟨n0, n1, n2, n3, n4, n5, n6, n7, n8⟩ := id N); (obtain ⟨m0, m1, m2, m3, m4⟩ := id M)
  go_wp2_with fail
  refine (specCarryOn_any _ _ _ _ _ _ _ _).mono ?_
  rintro e v5 ⟨rfl, hb⟩
  clear r0 r1 r2 r3 r4 r5 r6 r7 r8 d0 d1 d2 d3 d4 u0 u1 u2 u3 u4 n0 n1 n2 n3 n4 n5 n6 n7 n8 m0 m1 m2 m3 m4
  replace b := b.trans (hb.mono b.size)
  replace R := R.below hb
  replace D := D.below hb
  replace V := V.below hb
  replace N := N.below hb
  replace M := M.below hb
  replace c := c.below hb
  clear hb
  generalize crL kn lo hi a n d m = e1 at *
  generalize crH kn lo hi a n d m = e2 at *
  generalize crC kn lo hi a n d m = e3 at *
  have A5 := Below.al v5 (.cells #[.int .i64 e1, .int .i64 e2] 35)
  have X := Bx.new v5 e1 e2 35
  have q5 := c.lt
  have hk3 : v5.heap.size ≠ p := by omega
  have hk4 : k2 < v5.heap.size := M.1
  replace b := b.trans (A5.mono b.size)
  replace R := R.below A5
  replace D := D.below A5
  replace V := V.below A5
  replace N := N.below A5
  replace M := M.below A5
  replace c := c.below A5
  clear A5
  have s15 : w.heap.size ≠ v5.heap.size := by omega
  have s16 : w.heap.size + 1 ≠ v5.heap.size := by omega
  have s17 : w.heap.size + 1 + 1 ≠ v5.heap.size := by omega
  by_cases hz : e3 = 0
  · subst hz
    go_wp2_with fail
    generalize v5.heap.size = k3 at *
    generalize v5.alloc (.cells #[.int .i64 e1, .int .i64 e2] 35) = v at *
    refine (l1Once_any B p 5 _ c).mono ?_
    rintro e v ⟨o, rfl, c', hb⟩
    replace c := c'
    (obtain ⟨r0, r1, r2, r3, r4, r5, r6, r7, r8⟩ := id R); (obtain ⟨d0, d1, d2, d3, d4⟩ := id D); (obtain ⟨u0, u1, u2, u3, u4⟩ := id V); (obtain ⟨n0, n1, n2, n3, n4, n5, n6, n7, n8⟩ := id N); (obtain ⟨m0, m1, m2, m3, m4⟩ := id M); (obtain ⟨x0, x1, x2, x3, x4⟩ := id X)
    clear r0 r1 r2 r3 r4 r5 r6 r7 r8 d0 d1 d2 d3 d4 u0 u1 u2 u3 u4 n0 n1 n2 n3 n4 n5 n6 n7 n8 m0 m1 m2 m3 m4 x0 x1 x2 x3 x4; (replace b := b.trans (hb.below hwp b.size)); (replace R := R.but hb hpw); (replace D := D.butD hb hpw1); (replace V := V.butD hb hpw2); (replace N := N.but hb hk1); (replace M := M.butD hb hk2); (replace X := X.butD hb hk3); clear hb; (obtain ⟨r0, r1, r2, r3, r4, r5, r6, r7, r8⟩ := id R); (obtain ⟨d0, d1, d2, d3, d4⟩ := id D); (obtain ⟨u0, u1, u2, u3, u4⟩ := id V); (obtain ⟨n0, n1, n2, n3, n4, n5, n6, n7, n8⟩ := id N); (obtain ⟨m0, m1, m2, m3, m4⟩ := id M); (obtain ⟨x0, x1, x2, x3, x4⟩ := id X)
    cases o
    · go_wp2_with fail
      go_cut [12] (fun s12 wx => ∃ t : Int, s12 = .int .i64 t ∧ BoxL wx w.heap.size false 0 0 0 ∧ Bx wx (w.heap.size + 1) 0 0 ∧ Bx wx (w.heap.size + 1 + 1) 0 0 ∧ BoxL wx k1 kn lo hi a ∧ Bx wx k2 n d ∧ Below w.heap.size w wx ∧ CurOk wx B p)
      case first =>
        refine wp_region_held_drew (S := (fun w' => w'.cell? ⟨k3, 0, none⟩ = some (.int .i64 e1))) (by kernel_rfl) ?_ (fun hHeld => ?_)
        · simp (maxDischargeDepth := 6) [go_sem, *]
        clear r0 r1 r2 r3 r4 r5 r6 r7 r8 d0 d1 d2 d3 d4 u0 u1 u2 u3 u4 n0 n1 n2 n3 n4 n5 n6 n7 n8 m0 m1 m2 m3 m4 x0 x1 x2 x3 x4
        replace R := R.drew
        replace D := D.drew
        replace V := V.drew
        replace N := N.drew
        replace M := M.drew
        replace X := X.drew
        replace b := b.drew
        replace c := CurOk.drew c
        generalize v.drew = v at *
        (obtain ⟨r0, r1, r2, r3, r4, r5, r6, r7, r8⟩ := id R); (obtain ⟨d0, d1, d2, d3, d4⟩ := id D); (obtain ⟨u0, u1, u2, u3, u4⟩ := id V); (obtain ⟨n0, n1, n2, n3, n4, n5, n6, n7, n8⟩ := id N); (obtain ⟨m0, m1, m2, m3, m4⟩ := id M); (obtain ⟨x0, x1, x2, x3, x4⟩ := id X)
        refine wpAnyH_take (i := 0) (v := ?_) (by rw [List.getElem?_toArray]; rfl) (by kernel_rfl) (by kernel_rfl) (by kernel_rfl) (by intro _ _ _ h; exact h) (Or.inl ⟨by rfl, ?_⟩) (by assumption) ?_
        rotate_left
        · (intro w hSw; (try dsimp only at hSw); go_simp; all_goals with_reducible rfl)
        (try simp only [Act.put, List.setIfInBounds_toArray, List.set_cons_zero, List.set_cons_succ])
        refine wpAnyH_take (i := 1) (v := ?_) (by rw [List.getElem?_toArray]; rfl) (by kernel_rfl) (by kernel_rfl) (by kernel_rfl) (by intro _ _ _ h; exact h) (Or.inl ⟨by rfl, ?_⟩) (by assumption) ?_
        rotate_left
        · (intro w hSw; (try dsimp only at hSw); go_simp; all_goals with_reducible rfl)
        (try simp only [Act.put, List.setIfInBounds_toArray, List.set_cons_zero, List.set_cons_succ])
        refine wpAnyH_take (i := 2) (v := ?_) (by rw [List.getElem?_toArray]; rfl) (by kernel_rfl) (by kernel_rfl) (by kernel_rfl) (by intro _ _ _ h; exact h) (Or.inl ⟨by rfl, ?_⟩) (by assumption) ?_
        rotate_left
        · (intro w hSw; (try dsimp only at hSw); go_simp; all_goals with_reducible rfl)
        (try simp only [Act.put, List.setIfInBounds_toArray, List.set_cons_zero, List.set_cons_succ])
        refine wpAnyH_ready (rs := [3]) (by kernel_rfl) (by simp) ?_
        refine AllReadyH.cons (by rw [List.getElem?_toArray]; rfl) (fun K hK => ?_) AllReadyH.nil
        go_simp
        refine (l1Below_any B p 60 _ c).mono ?_; rintro e v ⟨x, rfl, xl, xh, xp, xz, c', hb⟩; (replace c := c'); clear xp xz; clear r0 r1 r2 r3 r4 r5 r6 r7 r8 d0 d1 d2 d3 d4 u0 u1 u2 u3 u4 n0 n1 n2 n3 n4 n5 n6 n7 n8 m0 m1 m2 m3 m4 x0 x1 x2 x3 x4; (replace b := b.trans (hb.below hwp b.size)); (replace R := R.but hb hpw); (replace D := D.butD hb hpw1); (replace V := V.butD hb hpw2); (replace N := N.but hb hk1); (replace M := M.butD hb hk2); (replace X := X.butD hb hk3); clear hb; (obtain ⟨r0, r1, r2, r3, r4, r5, r6, r7, r8⟩ := id R); (obtain ⟨d0, d1, d2, d3, d4⟩ := id D); (obtain ⟨u0, u1, u2, u3, u4⟩ := id V); (obtain ⟨n0, n1, n2, n3, n4, n5, n6, n7, n8⟩ := id N); (obtain ⟨m0, m1, m2, m3, m4⟩ := id M); (obtain ⟨x0, x1, x2, x3, x4⟩ := id X)
        (try go_wp2_with fail)
        refine hK.out _ _ ?_ (fun hHeld => ?_)
        · simp (maxDischargeDepth := 6) [go_sem, *]
        clear hK K
        (try simp only [Act.put, List.setIfInBounds_toArray, List.set_cons_zero, List.set_cons_succ])
        refine wpAnyH_take (i := 4) (v := ?_) (by rw [List.getElem?_toArray]; rfl) (by kernel_rfl) (by kernel_rfl) (by kernel_rfl) (by intro _ _ _ h; exact h) (Or.inl ⟨by rfl, ?_⟩) (by assumption) ?_
        rotate_left
        · (intro w hSw; (try dsimp only at hSw); go_simp; all_goals with_reducible rfl)
        (try simp only [Act.put, List.setIfInBounds_toArray, List.set_cons_zero, List.set_cons_succ])
        refine wpAnyH_take (i := 5) (v := ?_) (by rw [List.getElem?_toArray]; rfl) (by kernel_rfl) (by kernel_rfl) (by kernel_rfl) (by intro _ _ _ h; exact h) (Or.inl ⟨by rfl, ?_⟩) (by assumption) ?_
        rotate_left
        · (intro w hSw; (try dsimp only at hSw); go_simp; all_goals with_reducible rfl)
        (try simp only [Act.put, List.setIfInBounds_toArray, List.set_cons_zero, List.set_cons_succ])
        refine wpAnyH_take (i := 6) (v := ?_) (by rw [List.getElem?_toArray]; rfl) (by kernel_rfl) (by kernel_rfl) (by kernel_rfl) (by intro _ _ _ h; exact h) (Or.inl ⟨by rfl, ?_⟩) (by assumption) ?_
        rotate_left
        · (intro w hSw; (try dsimp only at hSw); go_simp; all_goals with_reducible rfl)
        (try simp only [Act.put, List.setIfInBounds_toArray, List.set_cons_zero, List.set_cons_succ])
        refine wpAnyH_done (by kernel_rfl) ?_ _
        go_wp2_with fail
        go_meet
        case rel => exact ⟨_, rfl, R, D, V, N, M, b, c⟩
      case rest =>
        clear r0 r1 r2 r3 r4 r5 r6 r7 r8 d0 d1 d2 d3 d4 u0 u1 u2 u3 u4 n0 n1 n2 n3 n4 n5 n6 n7 n8 m0 m1 m2 m3 m4 x0 x1 x2 x3 x4
        clear R D V N M X b c
        obtain ⟨tt, rfl, R, D, V, N, M, b, c⟩ := hcut
        generalize wc = v at *
        (obtain ⟨r0, r1, r2, r3, r4, r5, r6, r7, r8⟩ := id R); (obtain ⟨d0, d1, d2, d3, d4⟩ := id D); (obtain ⟨u0, u1, u2, u3, u4⟩ := id V); (obtain ⟨n0, n1, n2, n3, n4, n5, n6, n7, n8⟩ := id N); (obtain ⟨m0, m1, m2, m3, m4⟩ := id M)
        go_wp2_with fail
        refine wp_region_held_drew (S := (fun w' => w'.cell? ⟨k1, 0, none⟩ = some (.bool kn) ∧ w'.cell? ⟨k1, 1, none⟩ = some (.int .i64 lo) ∧ w'.cell? ⟨k1, 2, none⟩ = some (.int .i64 hi) ∧ w'.cell? ⟨k1, 3, none⟩ = some (.int .i64 a) ∧ w'.cell? ⟨k2, 0, none⟩ = some (.int .i64 n) ∧ w'.cell? ⟨k2, 1, none⟩ = some (.int .i64 d))) (by kernel_rfl) ?_ (fun hHeld => ?_)
        · simp (maxDischargeDepth := 6) [go_sem, *]
        clear r0 r1 r2 r3 r4 r5 r6 r7 r8 d0 d1 d2 d3 d4 u0 u1 u2 u3 u4 n0 n1 n2 n3 n4 n5 n6 n7 n8 m0 m1 m2 m3 m4
        replace R := R.drew
        replace D := D.drew
        replace V := V.drew
        replace N := N.drew
        replace M := M.drew
        replace b := b.drew
        replace c := CurOk.drew c
        generalize v.drew = v at *
        (obtain ⟨r0, r1, r2, r3, r4, r5, r6, r7, r8⟩ := id R); (obtain ⟨d0, d1, d2, d3, d4⟩ := id D); (obtain ⟨u0, u1, u2, u3, u4⟩ := id V); (obtain ⟨n0, n1, n2, n3, n4, n5, n6, n7, n8⟩ := id N); (obtain ⟨m0, m1, m2, m3, m4⟩ := id M)
        refine wpAnyH_take (i := 0) (v := ?_) (by rw [List.getElem?_toArray]; rfl) (by kernel_rfl) (by kernel_rfl) (by kernel_rfl) (by intro _ _ _ h; exact h) (Or.inl ⟨by rfl, ?_⟩) (by assumption) ?_
        rotate_left
        · (intro w hSw; (try dsimp only at hSw); go_simp; all_goals with_reducible rfl)
        (try simp only [Act.put, List.setIfInBounds_toArray, List.set_cons_zero, List.set_cons_succ])
        refine wpAnyH_take (i := 1) (v := ?_) (by rw [List.getElem?_toArray]; rfl) (by kernel_rfl) (by kernel_rfl) (by kernel_rfl) (by intro _ _ _ h; exact h) (Or.inl ⟨by rfl, ?_⟩) (by assumption) ?_
        rotate_left
        · (intro w hSw; (try dsimp only at hSw); go_simp; all_goals with_reducible rfl)
        (try simp only [Act.put, List.setIfInBounds_toArray, List.set_cons_zero, List.set_cons_succ])
        refine wpAnyH_take (i := 2) (v := ?_) (by rw [List.getElem?_toArray]; rfl) (by kernel_rfl) (by kernel_rfl) (by kernel_rfl) (by intro _ _ _ h; exact h) (Or.inl ⟨by rfl, ?_⟩) (by assumption) ?_
        rotate_left
        · (intro w hSw; (try dsimp only at hSw); go_simp; all_goals with_reducible rfl)
        (try simp only [Act.put, List.setIfInBounds_toArray, List.set_cons_zero, List.set_cons_succ])
        refine wpAnyH_take (i := 3) (v := ?_) (by rw [List.getElem?_toArray]; rfl) (by kernel_rfl) (by kernel_rfl) (by kernel_rfl) (by intro _ _ _ h; exact h) (Or.inl ⟨by rfl, ?_⟩) (by assumption) ?_
        rotate_left
        · (intro w hSw; (try dsimp only at hSw); go_simp; all_goals with_reducible rfl)
        (try simp only [Act.put, List.setIfInBounds_toArray, List.set_cons_zero, List.set_cons_succ])
        refine wpAnyH_take (i := 4) (v := ?_) (by rw [List.getElem?_toArray]; rfl) (by kernel_rfl) (by kernel_rfl) (by kernel_rfl) (by intro _ _ _ h; exact h) (Or.inl ⟨by rfl, ?_⟩) (by assumption) ?_
        rotate_left
        · (intro w hSw; (try dsimp only at hSw); go_simp; all_goals with_reducible rfl)
        (try simp only [Act.put, List.setIfInBounds_toArray, List.set_cons_zero, List.set_cons_succ])
        refine wpAnyH_take (i := 5) (v := ?_) (by rw [List.getElem?_toArray]; rfl) (by kernel_rfl) (by kernel_rfl) (by kernel_rfl) (by intro _ _ _ h; exact h) (Or.inl ⟨by rfl, ?_⟩) (by assumption) ?_
        rotate_left
        · (intro w hSw; (try dsimp only at hSw); go_simp; all_goals with_reducible rfl)
        (try simp only [Act.put, List.setIfInBounds_toArray, List.set_cons_zero, List.set_cons_succ])
        refine wpAnyH_ready (rs := [6]) (by kernel_rfl) (by simp) ?_
        refine AllReadyH.cons (by rw [List.getElem?_toArray]; rfl) (fun K hK => ?_) AllReadyH.nil
        go_simp
        refine (l1Below_any B p 60 _ c).mono ?_; rintro e v ⟨y, rfl, yl, yh, yp, yz, c', hb⟩; (replace c := c'); clear yp yz; clear r0 r1 r2 r3 r4 r5 r6 r7 r8 d0 d1 d2 d3 d4 u0 u1 u2 u3 u4 n0 n1 n2 n3 n4 n5 n6 n7 n8 m0 m1 m2 m3 m4; (replace b := b.trans (hb.below hwp b.size)); (replace R := R.but hb hpw); (replace D := D.butD hb hpw1); (replace V := V.butD hb hpw2); (replace N := N.but hb hk1); (replace M := M.butD hb hk2); clear hb; (obtain ⟨r0, r1, r2, r3, r4, r5, r6, r7, r8⟩ := id R); (obtain ⟨d0, d1, d2, d3, d4⟩ := id D); (obtain ⟨u0, u1, u2, u3, u4⟩ := id V); (obtain ⟨n0, n1, n2, n3, n4, n5, n6, n7, n8⟩ := id N); (obtain ⟨m0, m1, m2, m3, m4⟩ := id M)
        (try go_wp2_with fail)
        refine hK.out _ _ ?_ (fun hHeld => ?_)
        · simp (maxDischargeDepth := 6) [go_sem, *]
        clear hK K
        (try simp only [Act.put, List.setIfInBounds_toArray, List.set_cons_zero, List.set_cons_succ])
        refine wpAnyH_take (i := 7) (v := ?_) (by rw [List.getElem?_toArray]; rfl) (by kernel_rfl) (by kernel_rfl) (by kernel_rfl) (by intro _ _ _ h; exact h) (Or.inl ⟨by rfl, ?_⟩) (by assumption) ?_
        rotate_left
        · (intro w hSw; (try dsimp only at hSw); go_simp; all_goals with_reducible rfl)
        (try simp only [Act.put, List.setIfInBounds_toArray, List.set_cons_zero, List.set_cons_succ])
        refine wpAnyH_take (i := 8) (v := ?_) (by rw [List.getElem?_toArray]; rfl) (by kernel_rfl) (by kernel_rfl) (by kernel_rfl) (by intro _ _ _ h; exact h) (Or.inl ⟨by rfl, ?_⟩) (by assumption) ?_
        rotate_left
        · (intro w hSw; (try dsimp only at hSw); go_simp; all_goals with_reducible rfl)
        (try simp only [Act.put, List.setIfInBounds_toArray, List.set_cons_zero, List.set_cons_succ])
        refine wpAnyH_ready (rs := [9]) (by kernel_rfl) (by simp) ?_
        refine AllReadyH.cons (by rw [List.getElem?_toArray]; rfl) (fun K hK => ?_) AllReadyH.nil
        go_simp
        refine hK.out _ _ ?_ (fun hHeld => ?_)
        · simp (maxDischargeDepth := 6) [go_sem, *]
        clear hK K
        (try simp only [Act.put, List.setIfInBounds_toArray, List.set_cons_zero, List.set_cons_succ])
        refine wpAnyH_ready (rs := [10]) (by kernel_rfl) (by simp) ?_
        refine AllReadyH.cons (by rw [List.getElem?_toArray]; rfl) (fun K hK => ?_) AllReadyH.nil
        go_simp
        refine hK.out _ _ ?_ (fun hHeld => ?_)
        · simp (maxDischargeDepth := 6) [go_sem, *]
        clear hK K
        (try simp only [Act.put, List.setIfInBounds_toArray, List.set_cons_zero, List.set_cons_succ])
        refine wpAnyH_take (i := 11) (v := ?_) (by rw [List.getElem?_toArray]; rfl) (by kernel_rfl) (by kernel_rfl) (by kernel_rfl) (by intro _ _ _ h; exact h) (Or.inl ⟨by rfl, ?_⟩) (by assumption) ?_
        rotate_left
        · (intro w hSw; (try dsimp only at hSw); go_simp; all_goals with_reducible rfl)
        (try simp only [Act.put, List.setIfInBounds_toArray, List.set_cons_zero, List.set_cons_succ])
        refine wpAnyH_ready (rs := [12]) (by kernel_rfl) (by simp) ?_
        refine AllReadyH.cons (by rw [List.getElem?_toArray]; rfl) (fun K hK => ?_) AllReadyH.nil
        go_simp
        refine hK.out _ _ ?_ (fun hHeld => ?_)
        · simp (maxDischargeDepth := 6) [go_sem, *]
        clear hK K
        (try simp only [Act.put, List.setIfInBounds_toArray, List.set_cons_zero, List.set_cons_succ])
        refine wpAnyH_done (by kernel_rfl) ?_ _
        go_wp2_with fail
        exact bodyPost_ret (v := .tuple #[.agg #[.bool kn, .int .i64 lo, .int .i64 hi, .int .i64 a], .agg #[.int .i64 n, .int .i64 d], .int .i64 m, .agg #[.int .i64 tt, .int .i64 (IntKind.i64.wrap (tt + y))]]) (by simp (maxDischargeDepth := 6) [results, Try.results15, go_sem, *]) rfl ⟨kn, lo, hi, a, n, d, m, _, _, rfl, Below.setI (Below.setI (Below.setL b (Nat.le_refl _) kn lo hi a) (by omega) n d) (by omega) _ _⟩
    · clear X x0 x1 x2 x3 x4
      go_wp2_with fail
      refine wp_region_held_drew (S := (fun w' => w'.cell? ⟨k1, 0, none⟩ = some (.bool kn) ∧ w'.cell? ⟨k1, 1, none⟩ = some (.int .i64 lo) ∧ w'.cell? ⟨k1, 2, none⟩ = some (.int .i64 hi) ∧ w'.cell? ⟨k1, 3, none⟩ = some (.int .i64 a) ∧ w'.cell? ⟨k2, 0, none⟩ = some (.int .i64 n) ∧ w'.cell? ⟨k2, 1, none⟩ = some (.int .i64 d))) (by kernel_rfl) ?_ (fun hHeld => ?_)
      · simp (maxDischargeDepth := 6) [go_sem, *]
      clear r0 r1 r2 r3 r4 r5 r6 r7 r8 d0 d1 d2 d3 d4 u0 u1 u2 u3 u4 n0 n1 n2 n3 n4 n5 n6 n7 n8 m0 m1 m2 m3 m4
      replace R := R.drew
      replace D := D.drew
      replace V := V.drew
      replace N := N.drew
      replace M := M.drew
      replace b := b.drew
      replace c := CurOk.drew c
      generalize v.drew = v at *
      (obtain ⟨r0, r1, r2, r3, r4, r5, r6, r7, r8⟩ := id R); (obtain ⟨d0, d1, d2, d3, d4⟩ := id D); (obtain ⟨u0, u1, u2, u3, u4⟩ := id V); (obtain ⟨n0, n1, n2, n3, n4, n5, n6, n7, n8⟩ := id N); (obtain ⟨m0, m1, m2, m3, m4⟩ := id M)
      refine wpAnyH_take (i := 0) (v := ?_) (by rw [List.getElem?_toArray]; rfl) (by kernel_rfl) (by kernel_rfl) (by kernel_rfl) (by intro _ _ _ h; exact h) (Or.inl ⟨by rfl, ?_⟩) (by assumption) ?_
      rotate_left
      · (intro w hSw; (try dsimp only at hSw); go_simp; all_goals with_reducible rfl)
      (try simp only [Act.put, List.setIfInBounds_toArray, List.set_cons_zero, List.set_cons_succ])
      refine wpAnyH_take (i := 1) (v := ?_) (by rw [List.getElem?_toArray]; rfl) (by kernel_rfl) (by kernel_rfl) (by kernel_rfl) (by intro _ _ _ h; exact h) (Or.inl ⟨by rfl, ?_⟩) (by assumption) ?_
      rotate_left
      · (intro w hSw; (try dsimp only at hSw); go_simp; all_goals with_reducible rfl)
      (try simp only [Act.put, List.setIfInBounds_toArray, List.set_cons_zero, List.set_cons_succ])
      refine wpAnyH_take (i := 2) (v := ?_) (by rw [List.getElem?_toArray]; rfl) (by kernel_rfl) (by kernel_rfl) (by kernel_rfl) (by intro _ _ _ h; exact h) (Or.inl ⟨by rfl, ?_⟩) (by assumption) ?_
      rotate_left
      · (intro w hSw; (try dsimp only at hSw); go_simp; all_goals with_reducible rfl)
      (try simp only [Act.put, List.setIfInBounds_toArray, List.set_cons_zero, List.set_cons_succ])
      refine wpAnyH_take (i := 3) (v := ?_) (by rw [List.getElem?_toArray]; rfl) (by kernel_rfl) (by kernel_rfl) (by kernel_rfl) (by intro _ _ _ h; exact h) (Or.inl ⟨by rfl, ?_⟩) (by assumption) ?_
      rotate_left
      · (intro w hSw; (try dsimp only at hSw); go_simp; all_goals with_reducible rfl)
      (try simp only [Act.put, List.setIfInBounds_toArray, List.set_cons_zero, List.set_cons_succ])
      refine wpAnyH_ready (rs := [4]) (by kernel_rfl) (by simp) ?_
      refine AllReadyH.cons (by rw [List.getElem?_toArray]; rfl) (fun K hK => ?_) AllReadyH.nil
      go_simp
      refine (l1DrawIval_any B p _ c).mono ?_; rintro e v ⟨x, y, rfl, c', hb⟩; (replace c := c'); clear r0 r1 r2 r3 r4 r5 r6 r7 r8 d0 d1 d2 d3 d4 u0 u1 u2 u3 u4 n0 n1 n2 n3 n4 n5 n6 n7 n8 m0 m1 m2 m3 m4; (replace b := b.trans (hb.below hwp b.size)); (replace R := R.but hb hpw); (replace D := D.butD hb hpw1); (replace V := V.butD hb hpw2); (replace N := N.but hb hk1); (replace M := M.butD hb hk2); clear hb; (obtain ⟨r0, r1, r2, r3, r4, r5, r6, r7, r8⟩ := id R); (obtain ⟨d0, d1, d2, d3, d4⟩ := id D); (obtain ⟨u0, u1, u2, u3, u4⟩ := id V); (obtain ⟨n0, n1, n2, n3, n4, n5, n6, n7, n8⟩ := id N); (obtain ⟨m0, m1, m2, m3, m4⟩ := id M)
      (try go_wp2_with fail)
      refine hK.out _ _ ?_ (fun hHeld => ?_)
      · simp (maxDischargeDepth := 6) [go_sem, *]
      clear hK K
      (try simp only [Act.put, List.setIfInBounds_toArray, List.set_cons_zero, List.set_cons_succ])
      refine wpAnyH_ready (rs := [5]) (by kernel_rfl) (by simp) ?_
      refine AllReadyH.cons (by rw [List.getElem?_toArray]; rfl) (fun K hK => ?_) AllReadyH.nil
      go_simp
      refine hK.out _ _ ?_ (fun hHeld => ?_)
      · simp (maxDischargeDepth := 6) [go_sem, *]
      clear hK K
      (try simp only [Act.put, List.setIfInBounds_toArray, List.set_cons_zero, List.set_cons_succ])
      refine wpAnyH_ready (rs := [6]) (by kernel_rfl) (by simp) ?_
      refine AllReadyH.cons (by rw [List.getElem?_toArray]; rfl) (fun K hK => ?_) AllReadyH.nil
      go_simp
      refine hK.out _ _ ?_ (fun hHeld => ?_)
      · simp (maxDischargeDepth := 6) [go_sem, *]
      clear hK K
      (try simp only [Act.put, List.setIfInBounds_toArray, List.set_cons_zero, List.set_cons_succ])
      refine wpAnyH_take (i := 7) (v := ?_) (by rw [List.getElem?_toArray]; rfl) (by kernel_rfl) (by kernel_rfl) (by kernel_rfl) (by intro _ _ _ h; exact h) (Or.inl ⟨by rfl, ?_⟩) (by assumption) ?_
      rotate_left
      · (intro w hSw; (try dsimp only at hSw); go_simp; all_goals with_reducible rfl)
      (try simp only [Act.put, List.setIfInBounds_toArray, List.set_cons_zero, List.set_cons_succ])
      refine wpAnyH_ready (rs := [8]) (by kernel_rfl) (by simp) ?_
      refine AllReadyH.cons (by rw [List.getElem?_toArray]; rfl) (fun K hK => ?_) AllReadyH.nil
      go_simp
      refine hK.out _ _ ?_ (fun hHeld => ?_)
      · simp (maxDischargeDepth := 6) [go_sem, *]
      clear hK K
      (try simp only [Act.put, List.setIfInBounds_toArray, List.set_cons_zero, List.set_cons_succ])
      refine wpAnyH_done (by kernel_rfl) ?_ _
      go_wp2_with fail
      exact bodyPost_ret (v := .tuple #[.agg #[.bool kn, .int .i64 lo, .int .i64 hi, .int .i64 a], .agg #[.int .i64 n, .int .i64 d], .int .i64 m, .agg #[.int .i64 x, .int .i64 y]]) (by simp (maxDischargeDepth := 6) [results, Try.results15, go_sem, *]) rfl ⟨kn, lo, hi, a, n, d, m, x, y, rfl, Below.setI (Below.setI (Below.setL b (Nat.le_refl _) kn lo hi a) (by omega) n d) (by omega) _ _⟩
  · go_wp2_with fail
    generalize v5.alloc (.cells #[.int .i64 e1, .int .i64 e2] 35) = v at *
    clear X
    (obtain ⟨r0, r1, r2, r3, r4, r5, r6, r7, r8⟩ := id R); (obtain ⟨d0, d1, d2, d3, d4⟩ := id D); (obtain ⟨u0, u1, u2, u3, u4⟩ := id V); (obtain ⟨n0, n1, n2, n3, n4, n5, n6, n7, n8⟩ := id N); (obtain ⟨m0, m1, m2, m3, m4⟩ := id M)
    refine wp_region_held_drew (S := (fun w' => w'.cell? ⟨k1, 0, none⟩ = some (.bool kn) ∧ w'.cell? ⟨k1, 1, none⟩ = some (.int .i64 lo) ∧ w'.cell? ⟨k1, 2, none⟩ = some (.int .i64 hi) ∧ w'.cell? ⟨k1, 3, none⟩ = some (.int .i64 a) ∧ w'.cell? ⟨k2, 0, none⟩ = some (.int .i64 n) ∧ w'.cell? ⟨k2, 1, none⟩ = some (.int .i64 d))) (by kernel_rfl) ?_ (fun hHeld => ?_)
    · simp (maxDischargeDepth := 6) [go_sem, *]
    clear r0 r1 r2 r3 r4 r5 r6 r7 r8 d0 d1 d2 d3 d4 u0 u1 u2 u3 u4 n0 n1 n2 n3 n4 n5 n6 n7 n8 m0 m1 m2 m3 m4
    replace R := R.drew
    replace D := D.drew
    replace V := V.drew
    replace N := N.drew
    replace M := M.drew
    replace b := b.drew
    replace c := CurOk.drew c
    generalize v.drew = v at *
    (obtain ⟨r0, r1, r2, r3, r4, r5, r6, r7, r8⟩ := id R); (obtain ⟨d0, d1, d2, d3, d4⟩ := id D); (obtain ⟨u0, u1, u2, u3, u4⟩ := id V); (obtain ⟨n0, n1, n2, n3, n4, n5, n6, n7, n8⟩ := id N); (obtain ⟨m0, m1, m2, m3, m4⟩ := id M)
    refine wpAnyH_take (i := 0) (v := ?_) (by rw [List.getElem?_toArray]; rfl) (by kernel_rfl) (by kernel_rfl) (by kernel_rfl) (by intro _ _ _ h; exact h) (Or.inl ⟨by rfl, ?_⟩) (by assumption) ?_
    rotate_left
    · (intro w hSw; (try dsimp only at hSw); go_simp; all_goals with_reducible rfl)
    (try simp only [Act.put, List.setIfInBounds_toArray, List.set_cons_zero, List.set_cons_succ])
    refine wpAnyH_take (i := 1) (v := ?_) (by rw [List.getElem?_toArray]; rfl) (by kernel_rfl) (by kernel_rfl) (by kernel_rfl) (by intro _ _ _ h; exact h) (Or.inl ⟨by rfl, ?_⟩) (by assumption) ?_
    rotate_left
    · (intro w hSw; (try dsimp only at hSw); go_simp; all_goals with_reducible rfl)
    (try simp only [Act.put, List.setIfInBounds_toArray, List.set_cons_zero, List.set_cons_succ])
    refine wpAnyH_take (i := 2) (v := ?_) (by rw [List.getElem?_toArray]; rfl) (by kernel_rfl) (by kernel_rfl) (by kernel_rfl) (by intro _ _ _ h; exact h) (Or.inl ⟨by rfl, ?_⟩) (by assumption) ?_
    rotate_left
    · (intro w hSw; (try dsimp only at hSw); go_simp; all_goals with_reducible rfl)
    (try simp only [Act.put, List.setIfInBounds_toArray, List.set_cons_zero, List.set_cons_succ])
    refine wpAnyH_take (i := 3) (v := ?_) (by rw [List.getElem?_toArray]; rfl) (by kernel_rfl) (by kernel_rfl) (by kernel_rfl) (by intro _ _ _ h; exact h) (Or.inl ⟨by rfl, ?_⟩) (by assumption) ?_
    rotate_left
    · (intro w hSw; (try dsimp only at hSw); go_simp; all_goals with_reducible rfl)
    (try simp only [Act.put, List.setIfInBounds_toArray, List.set_cons_zero, List.set_cons_succ])
    refine wpAnyH_ready (rs := [4]) (by kernel_rfl) (by simp) ?_
    refine AllReadyH.cons (by rw [List.getElem?_toArray]; rfl) (fun K hK => ?_) AllReadyH.nil
    go_simp
    refine (l1DrawIval_any B p _ c).mono ?_; rintro e v ⟨x, y, rfl, c', hb⟩; (replace c := c'); clear r0 r1 r2 r3 r4 r5 r6 r7 r8 d0 d1 d2 d3 d4 u0 u1 u2 u3 u4 n0 n1 n2 n3 n4 n5 n6 n7 n8 m0 m1 m2 m3 m4; (replace b := b.trans (hb.below hwp b.size)); (replace R := R.but hb hpw); (replace D := D.butD hb hpw1); (replace V := V.butD hb hpw2); (replace N := N.but hb hk1); (replace M := M.butD hb hk2); clear hb; (obtain ⟨r0, r1, r2, r3, r4, r5, r6, r7, r8⟩ := id R); (obtain ⟨d0, d1, d2, d3, d4⟩ := id D); (obtain ⟨u0, u1, u2, u3, u4⟩ := id V); (obtain ⟨n0, n1, n2, n3, n4, n5, n6, n7, n8⟩ := id N); (obtain ⟨m0, m1, m2, m3, m4⟩ := id M)
    (try go_wp2_with fail)
    refine hK.out _ _ ?_ (fun hHeld => ?_)
    · simp (maxDischargeDepth := 6) [go_sem, *]
    clear hK K
    (try simp only [Act.put, List.setIfInBounds_toArray, List.set_cons_zero, List.set_cons_succ])
    refine wpAnyH_ready (rs := [5]) (by kernel_rfl) (by simp) ?_
    refine AllReadyH.cons (by rw [List.getElem?_toArray]; rfl) (fun K hK => ?_) AllReadyH.nil
    go_simp
    refine hK.out _ _ ?_ (fun hHeld => ?_)
    · simp (maxDischargeDepth := 6) [go_sem, *]
    clear hK K
    (try simp only [Act.put, List.setIfInBounds_toArray, List.set_cons_zero, List.set_cons_succ])
    refine wpAnyH_ready (rs := [6]) (by kernel_rfl) (by simp) ?_
    refine AllReadyH.cons (by rw [List.getElem?_toArray]; rfl) (fun K hK => ?_) AllReadyH.nil
    go_simp
    refine hK.out _ _ ?_ (fun hHeld => ?_)
    · simp (maxDischargeDepth := 6) [go_sem, *]
    clear hK K
    (try simp only [Act.put, List.setIfInBounds_toArray, List.set_cons_zero, List.set_cons_succ])
    refine wpAnyH_take (i := 7) (v := ?_) (by rw [List.getElem?_toArray]; rfl) (by kernel_rfl) (by kernel_rfl) (by kernel_rfl) (by intro _ _ _ h; exact h) (Or.inl ⟨by rfl, ?_⟩) (by assumption) ?_
    rotate_left
    · (intro w hSw; (try dsimp only at hSw); go_simp; all_goals with_reducible rfl)
    (try simp only [Act.put, List.setIfInBounds_toArray, List.set_cons_zero, List.set_cons_succ])
    refine wpAnyH_ready (rs := [8]) (by kernel_rfl) (by simp) ?_
    refine AllReadyH.cons (by rw [List.getElem?_toArray]; rfl) (fun K hK => ?_) AllReadyH.nil
    go_simp
    refine hK.out _ _ ?_ (fun hHeld => ?_)
    · simp (maxDischargeDepth := 6) [go_sem, *]
    clear hK K
    (try simp only [Act.put, List.setIfInBounds_toArray, List.set_cons_zero, List.set_cons_succ])
    refine wpAnyH_done (by kernel_rfl) ?_ _
    go_wp2_with fail
    exact bodyPost_ret (v := .tuple #[.agg #[.bool kn, .int .i64 lo, .int .i64 hi, .int .i64 a], .agg #[.int .i64 n, .int .i64 d], .int .i64 m, .agg #[.int .i64 x, .int .i64 y]]) (by simp (maxDischargeDepth := 6) [results, Try.results15, go_sem, *]) rfl ⟨kn, lo, hi, a, n, d, m, x, y, rfl, Below.setI (Below.setI (Below.setL b (Nat.le_refl _) kn lo hi a) (by omega) n d) (by omega) _ _⟩
end Go.Proofs.Ytlfbbdeoejafkaa
