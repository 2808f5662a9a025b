/- PlanMoved in the specification. -/
import Derived.Test.YtkdbgchmknanlaaB138
import Derived.Deep.DeepAppendRoom
import Derived.Deep.RegionHeld3
import Derived.WalkKit
import Derived.WalkSpells
import Derived.WalkLawsBesides
import Derived.Deep.RegionHeld
namespace Go.Proofs.Ytkdbgchmknanlaa
open Go.RowKit
set_option linter.unusedVariables false
/- Rows of slots as lists of cells; a copy of a plan; a plan that is moved, in the specification. -/
def srow (M : Nat → SlT) (n : Nat) : List Value := (List.range (n * 2)).map (MFSlot M)
theorem srow_len (M : Nat → SlT) (n : Nat) : (srow M n).length = n * 2 := by rw [srow, List.length_map, List.length_range]
theorem srow_get {M : Nat → SlT} {n j : Nat} {u : Value} (h : (srow M n)[j]? = some u) : j < n * 2 ∧ MFSlot M j = u := by
  rw [srow, List.getElem?_map] at h
  by_cases hj : j < n * 2
  · rw [List.getElem?_range hj] at h
    exact ⟨hj, by simpa using h⟩
  · rw [List.getElem?_eq_none (by rw [List.length_range]; omega)] at h
    simp at h
theorem MFSlot_one (M : Nat → SlT) (j : Nat) : (MFSlot M j).oneCell' = true := by
  have h : j % 2 = 0 ∨ j % 2 = 1 := by omega
  unfold MFSlot
  rcases h with h | h <;> rw [h] <;> rfl
theorem srow_one (M : Nat → SlT) (n : Nat) : ∀ u ∈ srow M n, u.oneCell' = true := by
  intro u hu
  rw [srow, List.mem_map] at hu
  obtain ⟨j, _, rfl⟩ := hu
  exact MFSlot_one M j
theorem addr_add (b off j : Nat) : (⟨b, off, none⟩ : Addr).add j = ⟨b, off + j, none⟩ := by
  unfold Addr.add
  split
  · next h => subst h; rfl
  · rfl
theorem Cs.srow {w : World} {b off n : Nat} {M : Nat → SlT} (h : Cs w b off (n * 2) (MFSlot M)) : ∀ j u, (Go.Proofs.Ytkdbgchmknanlaa.srow M n)[j]? = some u → w.cell? ((⟨b, off, none⟩ : Addr).add j) = some u := by
  intro j u hu
  obtain ⟨hj, rfl⟩ := srow_get hu
  rw [addr_add]
  exact h.2 j hj
theorem info13_parts : ∃ i, Try.prog.info? 60 = some i ∧ i.zero = some (.agg #[.int .i64 0, .int .i64 0]) ∧ i.size = 2 ∧ i.bytes = 16 := by
  obtain ⟨i, hi, hz⟩ := Option.map_eq_some_iff.1 infoSlot
  simp only [Prod.mk.injEq] at hz
  exact ⟨i, hi, hz.1, hz.2.1, hz.2.2⟩
set_option maxRecDepth 100000 in
set_option maxHeartbeats 8000000 in
theorem l13Copy_any (s g : Int) (b off n c : Nat) (M : Nat → SlT) (w : World) (hn : n ≤ 12) (hf : Cs w b off (n * 2) (MFSlot M)) :
    Calls Try.prog 65 #[.agg #[.int .i64 s, .int .i64 g, .slice (some ⟨b, off, none⟩) n c]] w fun e w' => ∃ a' c', e = .returned (.agg #[.int .i64 s, .int .i64 g, .slice a' n c']) ∧ w'.ownsRow w.heap.size 60 2 (.slice a' n c') n (srow M n) ∧ Below w.heap.size w w' := by
  obtain ⟨i0, hi, hz0, hz1, hz2⟩ := info13_parts
  have A0 := Below.nw w (.cells #[.int .i64 s, .int .i64 g, .slice (some ⟨b, off, none⟩) n c] 29)
  have A1 := Below.nw (w.alloc (.cells #[.int .i64 s, .int .i64 g, .slice (some ⟨b, off, none⟩) n c] 29)) (.cells #[.int .i64 0, .int .i64 0, .slice none 0 0] 29)
  have N := (Tx3.new w (.int .i64 s) (.int .i64 g) (.slice (some ⟨b, off, none⟩) n c) 29).below A1
  have R := Tx3.new (w.alloc (.cells #[.int .i64 s, .int .i64 g, .slice (some ⟨b, off, none⟩) n c] 29)) (.int .i64 0) (.int .i64 0) (.slice none 0 0) 29
  have B := A0.trans (A1.mono A0.size)
  simp only [World.size_alloc] at R
  clear A0 A1
  have hj : w.heap.size ≤ w.heap.size + 1 := by omega
  have d1 : w.heap.size ≠ w.heap.size + 1 := by omega
  have HF : Hid (Cs w b off (n * 2) (MFSlot M)) := hf
  clear hf
  go_enter Try.func65, Try.ntmps65
  go_upto_region 1 with fail
  generalize (w.alloc (.cells #[.int .i64 s, .int .i64 g, .slice (some ⟨b, off, none⟩) n c] 29)).alloc (.cells #[.int .i64 0, .int .i64 0, .slice none 0 0] 29) = v at *
  generalize w.heap.size + 1 = jr at *
  have A := Below.nw v (.cells #[] 60)
  have OW := World.ownsRow_made (base := v.heap.size) (size := 2) (e := 60) v #[] 0 (Nat.le_refl _) (by simp [maxLen]) (by simp)
  have hjo : w.heap.size < v.heap.size := N.1
  have hro : jr < v.heap.size := R.1
  replace N := N.below A
  replace R := R.below A
  replace B := B.trans (A.mono B.size)
  have hsz : v.heap.size ≤ (v.alloc (.cells #[] 60)).heap.size := A.size
  have CS := (HF.out.below B HF.out.1).srow
  have HCS : Hid (∀ j u, (srow M n)[j]? = some u → (v.alloc (.cells #[] 60)).cell? ((⟨b, off, none⟩ : Addr).add j) = some u) := CS
  clear CS A
  obtain ⟨n0, n1, n2, n3, n4, n5, n6⟩ := id N
  go_upto_region 2 with (at_builtin; refine wpList_append_new rfl _ _ 27 rfl v.heap.size 60 i0 (.agg #[.int .i64 0, .int .i64 0]) 2 16 Try.underlying27 hi hz0 hz1 hz2 rfl (by decide) _ 0 [] rfl OW ⟨b, off, none⟩ n c (srow M n) rfl (srow_len M n) HCS.out (srow_one M n) (by unfold maxLen; omega) (by omega) hsz ?_; intro v' w9 O9 hg9 hn9; (rw [Nat.zero_add, List.nil_append] at O9); (obtain ⟨a', c', rfl, _, _, _⟩ := ownF_src O9); (have N9 := N.kept hg9 (fun e => by have := (World.ownsRow.lt OW _ e.symm).1; omega)); (have R9 := R.kept hg9 (fun e => by have := (World.ownsRow.lt OW _ e.symm).1; omega)); (have B9 := B.trans ((grown_belowK OW hg9 hsz).mono (Nat.le_of_lt hjo))); clear n0 n1 n2 n3 n4 n5 n6; (obtain ⟨n0, n1, n2, n3, n4, n5, n6⟩ := id N9))
  have O10 := own_butK O9 ((But.refl w.heap.size w9).setCell 2 (.slice a' n c')) hjo
  have N10 := N9.set2 (.slice a' n c')
  have R10 := R9.setO d1 2 (.slice a' n c')
  have B10 := B9.setCell (p := ⟨w.heap.size, 2, none⟩) (Nat.le_refl _) (.slice a' n c')
  clear n0 n1 n2 n3 n4 n5 n6 N R B OW hg9 hn9 O9 N9 R9 B9 HCS HF
  generalize w9.setCell ⟨w.heap.size, 2, none⟩ (.slice a' n c') = u at *
  have O11 := own_butK O10 (((But.refl jr u).setCell 0 (.int .i64 s)).setCell 1 (.int .i64 g) |>.setCell 2 (.slice a' n c')) hro
  have RR := ((R10.set0 (.int .i64 s)).set1 (.int .i64 g)).set2 (.slice a' n c')
  have BB := ((B10.setCell (p := ⟨jr, 0, none⟩) hj (.int .i64 s)).setCell (p := ⟨jr, 1, none⟩) hj (.int .i64 g)).setCell (p := ⟨jr, 2, none⟩) hj (.slice a' n c')
  obtain ⟨n0, n1, n2, n3, n4, n5, n6⟩ := id N10
  obtain ⟨r0, r1, r2, r3, r4, r5, r6⟩ := id R10
  go_wp2_with fail
  clear n0 n1 n2 n3 n4 n5 n6 r0 r1 r2 r3 r4 r5 r6
  generalize ((u.setCell ⟨jr, 0, none⟩ (.int .i64 s)).setCell ⟨jr, 1, none⟩ (.int .i64 g)).setCell ⟨jr, 2, none⟩ (.slice a' n c') = vz at *
  obtain ⟨r0, r1, r2, r3, r4, r5, r6⟩ := id RR
  exact bodyPost_ret (v := (.agg #[.int .i64 s, .int .i64 g, .slice a' n c'])) (by simp (maxDischargeDepth := 6) [results, Try.results65, go_sem, *]) rfl ⟨a', c', rfl, own_baseI O11 (Nat.le_of_lt hjo), BB⟩
/- PlanMoved. -/
def pmS (s g : Int) (M : Nat → SlT) (n : Nat) (b : Int) : Int := match pmB s g M n b with | true => s + b | false => 0
def pmG (s g : Int) (M : Nat → SlT) (n : Nat) (b : Int) : Int := match pmB s g M n b with | true => g | false => 0
def pmN (s g : Int) (M : Nat → SlT) (n : Nat) (b : Int) : Nat := match pmB s g M n b with | true => n | false => 0
theorem pm_no {s g : Int} {M : Nat → SlT} {n : Nat} {b : Int} (h : pmB s g M n b = false) : pmS s g M n b = 0 ∧ pmG s g M n b = 0 ∧ pmN s g M n b = 0 := by
  unfold pmS pmG pmN
  rw [h]
  exact ⟨rfl, rfl, rfl⟩
theorem pm_yes {s g : Int} {M : Nat → SlT} {n : Nat} {b : Int} (h : pmB s g M n b = true) : pmS s g M n b = s + b ∧ pmG s g M n b = g ∧ pmN s g M n b = n := by
  unfold pmS pmG pmN
  rw [h]
  exact ⟨rfl, rfl, rfl⟩
set_option maxRecDepth 100000 in
set_option maxHeartbeats 8000000 in
theorem specPlanMoved_any (s g : Int) (a : Option Addr) (n c : Nat) (M : Nat → SlT) (by' : Int) (w : World) (hm : n ≤ maxLen) (hs : SrcC w a (n * 2) (MFSlot M)) :
    Calls Try.prog 38 #[.agg #[.int .i64 s, .int .i64 g, .slice a n c], .int .i64 by'] w fun e w' => ∃ a' c', e = .returned (.tuple #[.agg #[.int .i64 (pmS s g M n by'), .int .i64 (pmG s g M n by'), .slice a' (pmN s g M n by') c'], .bool (pmB s g M n by')]) ∧ w'.ownsRow w.heap.size 60 2 (.slice a' (pmN s g M n by') c') (pmN s g M n by') (srow M (pmN s g M n by')) ∧ Below w.heap.size w w' := by
  have A0 := Below.nw w (.cells #[.int .i64 s, .int .i64 g, .slice a n c] 29)
  have A1 := Below.nw (w.alloc (.cells #[.int .i64 s, .int .i64 g, .slice a n c] 29)) (.cells #[.int .i64 0, .int .i64 0, .slice none 0 0] 29)
  have N := (Tx3.new w (.int .i64 s) (.int .i64 g) (.slice a n c) 29).below A1
  have R := Tx3.new (w.alloc (.cells #[.int .i64 s, .int .i64 g, .slice a n c] 29)) (.int .i64 0) (.int .i64 0) (.slice none 0 0) 29
  have B := A0.trans (A1.mono A0.size)
  simp only [World.size_alloc] at R
  clear A0 A1
  have hj : w.heap.size ≤ w.heap.size + 1 := by omega
  have HS : Hid (SrcC w a (n * 2) (MFSlot M)) := hs
  clear hs
  have C1 := fun w' h => specPlanOk_any s g a n c M w' hm h
  have C2 : ∀ w', Calls Try.prog 47 #[.int .i64 by', .int .i64 (-1000000000000), .int .i64 1000000000000] w' fun e w'' => e = .returned (.bool (inT13 by')) ∧ w' = w'' := fun w' => l1In_any by' (-1000000000000) 1000000000000 w'
  cases h1 : plB s g M n
  · have hB : pmB s g M n by' = false := by unfold pmB; rw [h1]; rfl
    obtain ⟨e1, e2, e3⟩ := pm_no hB
    rw [e1, e2, e3, hB]
    rw [h1] at C1
    clear e1 e2 e3 hB
    go_enter Try.func38, Try.ntmps38; go_upto_region 1 with fail; generalize (w.alloc (.cells #[.int .i64 s, .int .i64 g, .slice a n c] 29)).alloc (.cells #[.int .i64 0, .int .i64 0, .slice none 0 0] 29) = v at *; generalize w.heap.size + 1 = jr at *
    obtain ⟨n0, n1, n2, n3, n4, n5, n6⟩ := id N; go_wp2_with fail; refine (C1 _ (HS.out.below B)).mono ?_; rintro e v1 ⟨rfl, hb⟩; clear n0 n1 n2 n3 n4 n5 n6; replace B := B.trans (hb.mono B.size); replace N := N.below hb; replace R := R.below hb; clear hb
    have RR := ((R.set0 (.int .i64 0)).set1 (.int .i64 0)).set2 (.slice none 0 0); have BB := ((B.setCell (p := ⟨jr, 0, none⟩) hj (.int .i64 0)).setCell (p := ⟨jr, 1, none⟩) hj (.int .i64 0)).setCell (p := ⟨jr, 2, none⟩) hj (.slice none 0 0); obtain ⟨r0, r1, r2, r3, r4, r5, r6⟩ := id R; go_wp2_with fail; clear r0 r1 r2 r3 r4 r5 r6; generalize ((v1.setCell ⟨jr, 0, none⟩ (.int .i64 0)).setCell ⟨jr, 1, none⟩ (.int .i64 0)).setCell ⟨jr, 2, none⟩ (.slice none 0 0) = vz at *; obtain ⟨r0, r1, r2, r3, r4, r5, r6⟩ := id RR; exact bodyPost_ret (v := (.tuple #[.agg #[.int .i64 0, .int .i64 0, .slice none 0 0], .bool false])) (by simp (maxDischargeDepth := 6) [results, Try.results38, go_sem, *]) rfl ⟨none, 0, rfl, World.ownsRow_nil _ _ _ _, BB⟩
  rw [h1] at C1
  cases h2 : inT13 by'
  · have hB : pmB s g M n by' = false := by unfold pmB; rw [h2]; simp
    obtain ⟨e1, e2, e3⟩ := pm_no hB
    rw [e1, e2, e3, hB]
    clear e1 e2 e3 hB
    go_enter Try.func38, Try.ntmps38; go_upto_region 1 with fail; generalize (w.alloc (.cells #[.int .i64 s, .int .i64 g, .slice a n c] 29)).alloc (.cells #[.int .i64 0, .int .i64 0, .slice none 0 0] 29) = v at *; generalize w.heap.size + 1 = jr at *
    obtain ⟨n0, n1, n2, n3, n4, n5, n6⟩ := id N; go_wp2_with fail; refine (C1 _ (HS.out.below B)).mono ?_; rintro e v1 ⟨rfl, hb⟩; clear n0 n1 n2 n3 n4 n5 n6; replace B := B.trans (hb.mono B.size); replace N := N.below hb; replace R := R.below hb; clear hb
    go_wp2_with fail; refine (C2 _).mono ?_; rintro e w' ⟨rfl, rfl⟩; rw [h2]
    have RR := ((R.set0 (.int .i64 0)).set1 (.int .i64 0)).set2 (.slice none 0 0); have BB := ((B.setCell (p := ⟨jr, 0, none⟩) hj (.int .i64 0)).setCell (p := ⟨jr, 1, none⟩) hj (.int .i64 0)).setCell (p := ⟨jr, 2, none⟩) hj (.slice none 0 0); obtain ⟨r0, r1, r2, r3, r4, r5, r6⟩ := id R; go_wp2_with fail; clear r0 r1 r2 r3 r4 r5 r6; generalize ((v1.setCell ⟨jr, 0, none⟩ (.int .i64 0)).setCell ⟨jr, 1, none⟩ (.int .i64 0)).setCell ⟨jr, 2, none⟩ (.slice none 0 0) = vz at *; obtain ⟨r0, r1, r2, r3, r4, r5, r6⟩ := id RR; exact bodyPost_ret (v := (.tuple #[.agg #[.int .i64 0, .int .i64 0, .slice none 0 0], .bool false])) (by simp (maxDischargeDepth := 6) [results, Try.results38, go_sem, *]) rfl ⟨none, 0, rfl, World.ownsRow_nil _ _ _ _, BB⟩
  obtain ⟨p1, p2, p3, p4⟩ := plB_t h1
  have hb2 : -1000000000000 ≤ by' ∧ by' ≤ 1000000000000 := of_decide_eq_true h2
  have hw : IntKind.i64.wrap (s + by') = s + by' := Go.IntWalk.i64_in _ ⟨by omega, by omega⟩
  have hmv := plB_mv (b := by') h1
  obtain ⟨b, off, rfl, hf⟩ : ∃ b off, a = some ⟨b, off, none⟩ ∧ Cs w b off (n * 2) (MFSlot M) := by
    rcases HS.out with q | q
    · exact absurd q (by omega)
    · exact q
  have HF : Hid (Cs w b off (n * 2) (MFSlot M)) := hf
  have CC := fun w' h => l13Copy_any s g b off n c M w' p3.2 h
  have C3 := fun (a' : Option Addr) (c' : Nat) w' h => specPlanOk_any (s + by') g a' n c' M w' hm h
  rw [hmv] at C3
  have HB : pmB s g M n by' = okT (s + by') := by unfold pmB; rw [h1, h2]; rfl
  have H0 : Hid (pmB s g M n by' = false → pmS s g M n by' = 0 ∧ pmG s g M n by' = 0 ∧ pmN s g M n by' = 0) := pm_no
  have H1 : Hid (pmB s g M n by' = true → pmS s g M n by' = s + by' ∧ pmG s g M n by' = g ∧ pmN s g M n by' = n) := pm_yes
  rw [← HB] at C3
  clear p1 p2 p4 hb2 hmv h1 hf HB
  generalize pmS s g M n by' = XS at *
  generalize pmG s g M n by' = XG at *
  generalize pmN s g M n by' = XN at *
  generalize pmB s g M n by' = XB at *
  generalize hsb : s + by' = sb at *
  go_enter Try.func38, Try.ntmps38; go_upto_region 1 with fail; generalize (w.alloc (.cells #[.int .i64 s, .int .i64 g, .slice (some ⟨b, off, none⟩) n c] 29)).alloc (.cells #[.int .i64 0, .int .i64 0, .slice none 0 0] 29) = v at *; generalize w.heap.size + 1 = jr at *
  obtain ⟨n0, n1, n2, n3, n4, n5, n6⟩ := id N; go_wp2_with fail; refine (C1 _ (HS.out.below B)).mono ?_; rintro e v1 ⟨rfl, hb⟩; clear n0 n1 n2 n3 n4 n5 n6; replace B := B.trans (hb.mono B.size); replace N := N.below hb; replace R := R.below hb; clear hb
  go_wp2_with fail; refine (C2 _).mono ?_; rintro e w' ⟨rfl, rfl⟩; rw [h2]
  clear C1 C2 h2
  obtain ⟨n0, n1, n2, n3, n4, n5, n6⟩ := id N
  go_wp2_with fail
  refine (CC _ (HF.out.below B HF.out.1)).mono ?_
  rintro e v2 ⟨a', c', rfl, OW, hb⟩
  clear n0 n1 n2 n3 n4 n5 n6
  have hjv : w.heap.size < v1.heap.size := N.1
  have hrv : jr < v1.heap.size := R.1
  replace B := B.trans (hb.mono B.size)
  replace R := R.below hb
  clear hb CC N
  have hro : jr < v2.heap.size := R.1
  have NL := Below.nw v2 (.cells #[.int .i64 s, .int .i64 g, .slice a' n c'] 29)
  have Z := Tx3.new v2 (.int .i64 s) (.int .i64 g) (.slice a' n c') 29
  have hog : ∀ q, (Value.slice a' n c').ownBlock = some q → q ≠ v2.heap.size := fun q hq => Nat.ne_of_lt (World.ownsRow.lt OW q hq).2
  go_upto_region 4 with fail
  replace B := B.trans (NL.mono B.size)
  replace R := R.below NL
  replace OW := own_belK' OW NL
  clear NL
  generalize v2.alloc (.cells #[.int .i64 s, .int .i64 g, .slice a' n c'] 29) = v3 at *
  have hzr : v2.heap.size ≠ jr := Nat.ne_of_gt hro
  have hzw : w.heap.size ≤ v2.heap.size := by omega
  have hogr : ∀ q, (Value.slice a' n c').ownBlock = some q → q ≠ jr := fun q hq e => by have := (World.ownsRow.lt OW q hq).1; have := hrv; omega
  generalize v2.heap.size = jz at *
  have Z4 := Z.set0 (.int .i64 sb)
  have R4 := R.setO hzr 0 (.int .i64 sb)
  have O4 := own_neK OW ((But.refl jz v3).setCell 0 (.int .i64 sb)) hog
  have B4 := B.setCell (p := ⟨jz, 0, none⟩) hzw (.int .i64 sb)
  obtain ⟨z0, z1, z2, z3, z4, z5, z6⟩ := id Z
  go_upto_region 5 with fail
  clear z0 z1 z2 z3 z4 z5 z6 Z R OW B
  generalize v3.setCell ⟨jz, 0, none⟩ (.int .i64 sb) = v4 at *
  obtain ⟨z0, z1, z2, z3, z4, z5, z6⟩ := id Z4
  go_wp2_with fail
  refine (C3 a' c' _ (ownS O4)).mono ?_
  rintro e v5 ⟨rfl, hb⟩
  clear z0 z1 z2 z3 z4 z5 z6
  have Z := Z4.below hb
  have R := R4.below hb
  have OW := own_belK' O4 hb
  have B := B4.trans (hb.mono B4.size)
  clear hb Z4 R4 O4 B4 C3
  cases XB
  · obtain ⟨rfl, rfl, rfl⟩ := H0.out rfl
    have RR := ((R.set0 (.int .i64 0)).set1 (.int .i64 0)).set2 (.slice none 0 0); have BB := ((B.setCell (p := ⟨jr, 0, none⟩) hj (.int .i64 0)).setCell (p := ⟨jr, 1, none⟩) hj (.int .i64 0)).setCell (p := ⟨jr, 2, none⟩) hj (.slice none 0 0); obtain ⟨r0, r1, r2, r3, r4, r5, r6⟩ := id R; go_wp2_with fail; clear r0 r1 r2 r3 r4 r5 r6; generalize ((v5.setCell ⟨jr, 0, none⟩ (.int .i64 0)).setCell ⟨jr, 1, none⟩ (.int .i64 0)).setCell ⟨jr, 2, none⟩ (.slice none 0 0) = vz at *; obtain ⟨r0, r1, r2, r3, r4, r5, r6⟩ := id RR; exact bodyPost_ret (v := (.tuple #[.agg #[.int .i64 0, .int .i64 0, .slice none 0 0], .bool false])) (by simp (maxDischargeDepth := 6) [results, Try.results38, go_sem, *]) rfl ⟨none, 0, rfl, World.ownsRow_nil _ _ _ _, BB⟩
  · obtain ⟨rfl, rfl, rfl⟩ := H1.out rfl
    have O6 := own_neK OW (((But.refl jr v5).setCell 0 (.int .i64 XS)).setCell 1 (.int .i64 XG) |>.setCell 2 (.slice a' XN c')) hogr
    have RR := ((R.set0 (.int .i64 XS)).set1 (.int .i64 XG)).set2 (.slice a' XN c')
    have BB := ((B.setCell (p := ⟨jr, 0, none⟩) hj (.int .i64 XS)).setCell (p := ⟨jr, 1, none⟩) hj (.int .i64 XG)).setCell (p := ⟨jr, 2, none⟩) hj (.slice a' XN c')
    obtain ⟨z0, z1, z2, z3, z4, z5, z6⟩ := id Z
    obtain ⟨r0, r1, r2, r3, r4, r5, r6⟩ := id R
    go_wp2_with fail
    clear r0 r1 r2 r3 r4 r5 r6 z0 z1 z2 z3 z4 z5 z6
    generalize ((v5.setCell ⟨jr, 0, none⟩ (.int .i64 XS)).setCell ⟨jr, 1, none⟩ (.int .i64 XG)).setCell ⟨jr, 2, none⟩ (.slice a' XN c') = vz at *
    obtain ⟨r0, r1, r2, r3, r4, r5, r6⟩ := id RR
    exact bodyPost_ret (v := (.tuple #[.agg #[.int .i64 XS, .int .i64 XG, .slice a' XN c'], .bool true])) (by simp (maxDischargeDepth := 6) [results, Try.results38, go_sem, *]) rfl ⟨a', c', rfl, own_baseI O6 (Nat.le_of_lt hjv), BB⟩
end Go.Proofs.Ytkdbgchmknanlaa
