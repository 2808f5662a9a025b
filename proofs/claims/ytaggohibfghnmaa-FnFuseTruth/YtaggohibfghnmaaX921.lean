/- Contracts of HullBySubsets, whole. -/
import Derived.Test.YtaggohibfghnmaaX920
import Derived.Laws.EntriesVeiled
import Derived.Deep.RegionHeld3
import Derived.Deep.DeepCutAuto
import Derived.WalkKit
import Derived.WalkSpells
import Derived.WalkLawsBesides
import Derived.Deep.RegionHeld
namespace Go.Proofs.Ytaggohibfghnmaa
open Go.RowKit
set_option linter.unusedVariables false
def hbS (f : Nat → Int × Int) (n : Nat) (k : Int) : Int × Int := if srcB f n = true ∧ 1 ≤ k then chs f n k.toNat 0 (-1000000000000, 1000000000000) (1000000000000, -1000000000000) else (1000000000000, -1000000000000)
theorem hbS_no {f : Nat → Int × Int} {n : Nat} {k : Int} (h : ¬ (srcB f n = true ∧ 1 ≤ k)) : hbS f n k = (1000000000000, -1000000000000) := if_neg h
theorem hbS_yes {f : Nat → Int × Int} {n : Nat} {k : Int} (h : srcB f n = true) (h1 : 1 ≤ k) : hbS f n k = chs f n k.toNat 0 (-1000000000000, 1000000000000) (1000000000000, -1000000000000) := if_pos ⟨h, h1⟩
theorem none_top : (sel (okI ((1000000000000, -1000000000000) : Int × Int).1 ((1000000000000, -1000000000000) : Int × Int).2) ((1000000000000, -1000000000000) : Int × Int).1 = 0) ∧ (sel (okI ((1000000000000, -1000000000000) : Int × Int).1 ((1000000000000, -1000000000000) : Int × Int).2) ((1000000000000, -1000000000000) : Int × Int).2 = 0) ∧ okI ((1000000000000, -1000000000000) : Int × Int).1 ((1000000000000, -1000000000000) : Int × Int).2 = false := ⟨rfl, rfl, rfl⟩
set_option maxRecDepth 100000 in
set_option maxHeartbeats 2000000 in
theorem specHB (a : Option Addr) (n c : Nat) (f : Nat → Int × Int) (k : Int) (w : World) (hm : n ≤ maxLen) (hk : k ≤ 9223372036854775807) (hs : Src w a n f) :
    Calls Try.prog 16 #[.slice a n c, .int .i64 k] w fun e w' => e = .returned (.tuple #[.agg #[.int .i64 (sel (okI (hbS f n k).1 (hbS f n k).2) (hbS f n k).1), .int .i64 (sel (okI (hbS f n k).1 (hbS f n k).2) (hbS f n k).2)], .bool (okI (hbS f n k).1 (hbS f n k).2)]) ∧ Below w.heap.size w w' := by
  have HS : Hid (Src w a n f) := hs
  have R := Vb.new w 0 0 25
  have B := Below.al9 w (.cells #[.int .i64 0, .int .i64 0] 25)
  have CS := specSources a n c f (w.alloc (.cells #[.int .i64 0, .int .i64 0] 25)) hm (HS.out.below B)
  by_cases hgood : srcB f n = true ∧ 1 ≤ k
  · have ⟨hn, ho⟩ := srcB_le hgood.1
    obtain ⟨K, hK⟩ : ∃ K : Nat, k = ((K + 1 : Nat) : Int) := ⟨k.toNat - 1, by omega⟩
    have eK : k.toNat = K + 1 := by omega
    rw [hbS_yes hgood.1 hgood.2, eK]
    have hgH : gH (1000000000000, -1000000000000) := .inl rfl
    have CF := fun (v : World) (hb : Below w.heap.size w v) => chooseF a n c f hn ho K 0 0 0 1000000000000 (-1000000000000) v (by omega) (by omega) hgH (HS.out.below hb)
    rw [top_no] at CF
    simp only [sel_f] at CF
    have hd : decide (k < 1) = false := by simp; omega
    have hsb := hgood.1
    rw [← hK] at CF
    generalize chs f n (K + 1) 0 (-1000000000000, 1000000000000) (1000000000000, -1000000000000) = H at *
    generalize hob : okI H.1 H.2 = ob at *
    generalize hx1 : sel ob H.1 = hl at *
    generalize hx2 : sel ob H.2 = hh at *
    have HZ : Hid (ob = false → hl = 0 ∧ hh = 0) := fun e => by subst e; exact ⟨hx1.symm, hx2.symm⟩
    clear hgood hK eK hgH hob hx1 hx2
    go_enter Try.func16, Try.ntmps16
    go_wp2_with fail
    refine CS.mono ?_
    rintro e w1 ⟨rfl, hb⟩
    rw [hsb]
    replace R := R.below hb
    replace B := B.trans (hb.mono B.size)
    clear hb CS
    have A := Below.al9 w1 (.cells #[.int .i64 0, .int .i64 0] 25)
    have Z := Vb.new w1 0 0 25
    have hrs := R.1
    replace R := R.below A
    replace B := B.trans (A.mono B.size)
    clear A
    go_upto_region 4 with fail
    generalize hj1 : w1.heap.size = j1 at *
    generalize w1.alloc (.cells #[.int .i64 0, .int .i64 0] 25) = w2 at *
    clear hj1
    obtain ⟨z0, z1, z2, z3, z4⟩ := id Z
    go_wp2_with fail
    refine (CF _ B).mono ?_
    rintro e w3 ⟨rfl, hb⟩
    clear z0 z1 z2 z3 z4
    replace R := R.below hb
    replace Z := Z.below hb
    replace B := B.trans (hb.mono B.size)
    clear hb CF
    have A := Below.al9 w3 (.cells #[.int .i64 hl, .int .i64 hh] 25)
    have Y := Vb.new w3 hl hh 25
    have hrs3 := R.1
    have hzs3 := Z.1
    replace R := R.below A
    replace Z := Z.below A
    replace B := B.trans (A.mono B.size)
    clear A
    go_upto_region 5 with fail
    generalize hj3 : w3.heap.size = j3 at *
    generalize w3.alloc (.cells #[.int .i64 hl, .int .i64 hh] 25) = w4 at *
    clear hj3
    have B9 : Below w.heap.size w ((w4.setCell ⟨w.heap.size, 0, none⟩ (.int .i64 hl)).setCell ⟨w.heap.size, 1, none⟩ (.int .i64 hh)) := Below.put2 B (Nat.le_refl _) hl hh
    have R9 : Vb ((w4.setCell ⟨w.heap.size, 0, none⟩ (.int .i64 hl)).setCell ⟨w.heap.size, 1, none⟩ (.int .i64 hh)) w.heap.size hl hh := R.put hl hh
    cases ob
    · obtain ⟨e1, e2⟩ := HZ.out rfl
      subst e1
      subst e2
      obtain ⟨r0, r1, r2, r3, r4⟩ := R
      obtain ⟨z0, z1, z2, z3, z4⟩ := Z
      go_wp2_with fail
      generalize ((w4.setCell ⟨w.heap.size, 0, none⟩ (.int .i64 0)).setCell ⟨w.heap.size, 1, none⟩ (.int .i64 0)) = w9 at *
      obtain ⟨m0, m1, m2, m3, m4⟩ := R9
      exact bodyPost_ret (v := .tuple #[.agg #[.int .i64 0, .int .i64 0], .bool false]) (by simp (maxDischargeDepth := 6) [results, Try.results16, go_sem, m1, m2]) rfl ⟨rfl, B9⟩
    · obtain ⟨r0, r1, r2, r3, r4⟩ := R
      obtain ⟨y0, y1, y2, y3, y4⟩ := Y
      go_wp2_with fail
      generalize ((w4.setCell ⟨w.heap.size, 0, none⟩ (.int .i64 hl)).setCell ⟨w.heap.size, 1, none⟩ (.int .i64 hh)) = w9 at *
      obtain ⟨m0, m1, m2, m3, m4⟩ := R9
      exact bodyPost_ret (v := .tuple #[.agg #[.int .i64 hl, .int .i64 hh], .bool true]) (by simp (maxDischargeDepth := 6) [results, Try.results16, go_sem, m1, m2]) rfl ⟨rfl, B9⟩
  · rw [hbS_no hgood]
    obtain ⟨e1, e2, e3⟩ := none_top
    rw [e1, e2, e3]
    cases hsb : srcB f n
    · go_enter Try.func16, Try.ntmps16
      go_wp2_with fail
      refine CS.mono ?_
      rintro e w1 ⟨rfl, hb⟩
      rw [hsb]
      replace R := R.below hb
      replace B := B.trans (hb.mono B.size)
      clear hb CS e1 e2 e3
      have B9 : Below w.heap.size w ((w1.setCell ⟨w.heap.size, 0, none⟩ (.int .i64 0)).setCell ⟨w.heap.size, 1, none⟩ (.int .i64 0)) := Below.put2 B (Nat.le_refl _) 0 0
      have R9 : Vb ((w1.setCell ⟨w.heap.size, 0, none⟩ (.int .i64 0)).setCell ⟨w.heap.size, 1, none⟩ (.int .i64 0)) w.heap.size 0 0 := R.put 0 0
      obtain ⟨r0, r1, r2, r3, r4⟩ := R
      go_wp2_with fail
      generalize ((w1.setCell ⟨w.heap.size, 0, none⟩ (.int .i64 0)).setCell ⟨w.heap.size, 1, none⟩ (.int .i64 0)) = w9 at *
      obtain ⟨m0, m1, m2, m3, m4⟩ := R9
      exact bodyPost_ret (v := .tuple #[.agg #[.int .i64 0, .int .i64 0], .bool false]) (by simp (maxDischargeDepth := 6) [results, Try.results16, go_sem, m1, m2]) rfl ⟨rfl, B9⟩
    · have hk1 : k < 1 := by
        by_cases q : 1 ≤ k
        · exact absurd ⟨hsb, q⟩ hgood
        · omega
      go_enter Try.func16, Try.ntmps16
      go_wp2_with fail
      refine CS.mono ?_
      rintro e w1 ⟨rfl, hb⟩
      rw [hsb]
      replace R := R.below hb
      replace B := B.trans (hb.mono B.size)
      clear hb CS e1 e2 e3
      have B9 : Below w.heap.size w ((w1.setCell ⟨w.heap.size, 0, none⟩ (.int .i64 0)).setCell ⟨w.heap.size, 1, none⟩ (.int .i64 0)) := Below.put2 B (Nat.le_refl _) 0 0
      have R9 : Vb ((w1.setCell ⟨w.heap.size, 0, none⟩ (.int .i64 0)).setCell ⟨w.heap.size, 1, none⟩ (.int .i64 0)) w.heap.size 0 0 := R.put 0 0
      obtain ⟨r0, r1, r2, r3, r4⟩ := R
      go_wp2_with fail
      generalize ((w1.setCell ⟨w.heap.size, 0, none⟩ (.int .i64 0)).setCell ⟨w.heap.size, 1, none⟩ (.int .i64 0)) = w9 at *
      obtain ⟨m0, m1, m2, m3, m4⟩ := R9
      exact bodyPost_ret (v := .tuple #[.agg #[.int .i64 0, .int .i64 0], .bool false]) (by simp (maxDischargeDepth := 6) [results, Try.results16, go_sem, m1, m2]) rfl ⟨rfl, B9⟩
/- A box of one cell. -/
def Ob (w : World) (j : Nat) (v : Value) : Prop := j < w.heap.size ∧ w.cell? ⟨j, 0, none⟩ = some v ∧ w.frozen? ⟨j, 0, none⟩ = false
theorem Ob.new (w : World) (v : Value) (T : TypeId) : Ob (w.alloc (.cells #[v] T)) w.heap.size v := ⟨by simp, by simp, by simp⟩
theorem Ob.below {w w' : World} {j : Nat} {v : Value} (h : Ob w j v) (hb : Below w.heap.size w w') : Ob w' j v := ⟨Nat.lt_of_lt_of_le h.1 hb.size, by rw [hb.cell (p := ⟨j, 0, none⟩) h.1]; exact h.2.1, by rw [hb.frozen (p := ⟨j, 0, none⟩) h.1]; exact h.2.2⟩
set_option maxRecDepth 100000 in
set_option maxHeartbeats 2000000 in
theorem implHB (a : Option Addr) (n c : Nat) (f : Nat → Int × Int) (k : Int) (w : World) (hm : n ≤ maxLen) (hk : k ≤ 9223372036854775807) (hs : Src w a n f) :
    Calls Try.prog 15 #[.slice a n c, .int .i64 k] w fun e w' => e = .returned (.tuple #[.agg #[.int .i64 (sel (okI (hbS f n k).1 (hbS f n k).2) (hbS f n k).1), .int .i64 (sel (okI (hbS f n k).1 (hbS f n k).2) (hbS f n k).2)], .bool (okI (hbS f n k).1 (hbS f n k).2)]) ∧ Below w.heap.size w w' := by
  have HS : Hid (Src w a n f) := hs
  have L := (Ob.new w (.slice a n c) 26).below (Below.al9 (w.alloc (.cells #[.slice a n c] 26)) (.cells #[.int .i64 0, .int .i64 0] 25))
  have R := Vb.new (w.alloc (.cells #[.slice a n c] 26)) 0 0 25
  simp only [World.size_alloc] at R
  have B := (Below.al9 w (.cells #[.slice a n c] 26)).trans ((Below.al9 (w.alloc (.cells #[.slice a n c] 26)) (.cells #[.int .i64 0, .int .i64 0] 25)).mono (by simp))
  have CS := implSources a n c f ((w.alloc (.cells #[.slice a n c] 26)).alloc (.cells #[.int .i64 0, .int .i64 0] 25)) hm (HS.out.below B)
  by_cases hgood : srcB f n = true ∧ 1 ≤ k
  · have ⟨hn, ho⟩ := srcB_le hgood.1
    obtain ⟨K, hK⟩ : ∃ K : Nat, k = (K : Int) := ⟨k.toNat, by omega⟩
    subst hK
    have eK : ((K : Int)).toNat = K := by omega
    rw [hbS_yes hgood.1 hgood.2, eK]
    have hd : decide ((K : Int) < 1) = false := by have := hgood.2; simp; omega
    have hsb := hgood.1
    have hall : okI (-1000000000000) 1000000000000 = true := by decide
    have HCH : Hid (chA f n K 0 (-1000000000000, 1000000000000) (1000000000000, -1000000000000) = chs f n K 0 (-1000000000000, 1000000000000) (1000000000000, -1000000000000)) := chA_t hall
    generalize chs f n K 0 (-1000000000000, 1000000000000) (1000000000000, -1000000000000) = H at *
    have CTd := fun (v : World) => told_any H.1 H.2 v
    generalize okI H.1 H.2 = ob at *
    generalize sel ob H.1 = tl at *
    generalize sel ob H.2 = th at *
    clear hgood eK ho hall
    go_enter Try.func15, Try.ntmps15
    obtain ⟨l0, l1, l2⟩ := id L
    go_wp2_with fail
    refine CS.mono ?_
    rintro e w1 ⟨rfl, hb⟩
    rw [hsb]
    clear l0 l1 l2
    replace L := L.below hb
    replace R := R.below hb
    replace B := B.trans (hb.mono B.size)
    clear hb CS
    have hl1 := L.1
    have hr1 := R.1
    have A1 := Below.al9 w1 (.cells #[.int .i64 (-1000000000000), .int .i64 1000000000000] 25)
    have A2 := Below.al9 (w1.alloc (.cells #[.int .i64 (-1000000000000), .int .i64 1000000000000] 25)) (.cells #[.int .i64 1000000000000, .int .i64 (-1000000000000)] 25)
    have M := (Vb.new w1 (-1000000000000) 1000000000000 25).below A2
    have X := Vb.new (w1.alloc (.cells #[.int .i64 (-1000000000000), .int .i64 1000000000000] 25)) 1000000000000 (-1000000000000) 25
    simp only [World.size_alloc] at X
    replace L := (L.below A1).below A2
    replace R := (R.below A1).below A2
    replace B := (B.trans (A1.mono B.size)).trans (A2.mono (by have := B.size; simp; omega))
    clear A1 A2
    go_upto_region 4 with fail
    generalize hj1 : w1.heap.size = j1 at *
    have HSZ : Hid (((w1.alloc (.cells #[.int .i64 (-1000000000000), .int .i64 1000000000000] 25)).alloc (.cells #[.int .i64 1000000000000, .int .i64 (-1000000000000)] 25)).heap.size = j1 + 1 + 1) := by rw [Hid]; simp [hj1]
    clear hj1
    generalize ((w1.alloc (.cells #[.int .i64 (-1000000000000), .int .i64 1000000000000] 25)).alloc (.cells #[.int .i64 1000000000000, .int .i64 (-1000000000000)] 25)) = w2 at *
    have A3 := Below.al9 w2 (.cells #[.func (.func 42) #[] #[.pointer (some ⟨j1 + 1, 0, none⟩), .pointer (some ⟨w.heap.size, 0, none⟩), .pointer (some ⟨w2.heap.size, 0, none⟩)]] 59)
    have C := Ob.new w2 (.func (.func 42) #[] #[.pointer (some ⟨j1 + 1, 0, none⟩), .pointer (some ⟨w.heap.size, 0, none⟩), .pointer (some ⟨w2.heap.size, 0, none⟩)]) 59
    have hsz := HSZ.out
    have B3 := B.trans (A3.mono B.size)
    have L3 := L.below A3
    have R3 := R.below A3
    have M3 := M.below A3
    have X3 := X.below A3
    have E3 : Env (w2.alloc (.cells #[.func (.func 42) #[] #[.pointer (some ⟨j1 + 1, 0, none⟩), .pointer (some ⟨w.heap.size, 0, none⟩), .pointer (some ⟨w2.heap.size, 0, none⟩)]] 59)) (j1 + 1) w.heap.size w2.heap.size a n c f := {
      l := L3.1
      bc := C.1
      lh := by omega
      ch := by omega
      lc := L3.2.1
      cc := C.2.1
      s := by
        rcases HS.out with h0 | ⟨b, off, ha, hp⟩
        · exact .inl h0
        · exact .inr ⟨b, off, ha, by have := hp.1; omega, hp.below B3 hp.1⟩ }
    have hj1w : w.heap.size < j1 := by have := hl1; omega
    have CC := choose_any (j1 + 1) w.heap.size w2.heap.size a n c f hn K 0 (-1000000000000) 1000000000000 1000000000000 (-1000000000000) _ (by omega) (by omega) X3 E3
    rw [HCH.out] at CC
    have hbb := B3.size
    clear A3 HCH E3 B L R M X hsz
    have CC0 := CC
    simp only [Int.ofNat_zero] at CC0
    clear CC
    obtain ⟨c0, c1, c2⟩ := id C
    obtain ⟨y0, y1, y2, y3, y4⟩ := id M3
    go_wp2_with fail
    refine CC0.mono ?_
    rintro e w4 ⟨⟨u, rfl⟩, X4, hg⟩
    clear c0 c1 c2 y0 y1 y2 y3 y4 CC0
    have R4 := R3.grown hg (by omega)
    have B4 := B3.grown hg B3.size (fun q e => by cases e; omega)
    clear hg R3 B3 M3 X3 L3 C
    obtain ⟨x0, x1, x2, x3, x4⟩ := id X4
    go_wp2_with fail
    refine (CTd _).mono ?_
    rintro e w5 ⟨rfl, hb⟩
    clear x0 x1 x2 x3 x4
    have R5 := R4.below hb
    have B5 := B4.trans (hb.mono B4.size)
    clear hb
    have B9 : Below w.heap.size w ((w5.setCell ⟨w.heap.size + 1, 0, none⟩ (.int .i64 tl)).setCell ⟨w.heap.size + 1, 1, none⟩ (.int .i64 th)) := Below.put2 B5 (Nat.le_succ _) tl th
    have R9 : Vb ((w5.setCell ⟨w.heap.size + 1, 0, none⟩ (.int .i64 tl)).setCell ⟨w.heap.size + 1, 1, none⟩ (.int .i64 th)) (w.heap.size + 1) tl th := R5.put tl th
    obtain ⟨r0, r1, r2, r3, r4⟩ := R5
    go_wp2_with fail
    generalize ((w5.setCell ⟨w.heap.size + 1, 0, none⟩ (.int .i64 tl)).setCell ⟨w.heap.size + 1, 1, none⟩ (.int .i64 th)) = w9 at *
    obtain ⟨m0, m1, m2, m3, m4⟩ := R9
    exact bodyPost_ret (v := .tuple #[.agg #[.int .i64 tl, .int .i64 th], .bool ob]) (by simp (maxDischargeDepth := 6) [results, Try.results15, go_sem, m1, m2]) rfl ⟨rfl, B9⟩
  · rw [hbS_no hgood]
    obtain ⟨e1, e2, e3⟩ := none_top
    rw [e1, e2, e3]
    obtain ⟨l0, l1, l2⟩ := id L
    cases hsb : srcB f n
    · go_enter Try.func15, Try.ntmps15
      go_wp2_with fail
      refine CS.mono ?_
      rintro e w1 ⟨rfl, hb⟩
      rw [hsb]
      replace R := R.below hb
      replace B := B.trans (hb.mono B.size)
      clear hb CS e1 e2 e3 l0 l1 l2
      have B9 : Below w.heap.size w ((w1.setCell ⟨w.heap.size + 1, 0, none⟩ (.int .i64 0)).setCell ⟨w.heap.size + 1, 1, none⟩ (.int .i64 0)) := Below.put2 B (Nat.le_succ _) 0 0
      have R9 : Vb ((w1.setCell ⟨w.heap.size + 1, 0, none⟩ (.int .i64 0)).setCell ⟨w.heap.size + 1, 1, none⟩ (.int .i64 0)) (w.heap.size + 1) 0 0 := R.put 0 0
      obtain ⟨r0, r1, r2, r3, r4⟩ := R
      go_wp2_with fail
      generalize ((w1.setCell ⟨w.heap.size + 1, 0, none⟩ (.int .i64 0)).setCell ⟨w.heap.size + 1, 1, none⟩ (.int .i64 0)) = w9 at *
      obtain ⟨m0, m1, m2, m3, m4⟩ := R9
      exact bodyPost_ret (v := .tuple #[.agg #[.int .i64 0, .int .i64 0], .bool false]) (by simp (maxDischargeDepth := 6) [results, Try.results15, go_sem, m1, m2]) rfl ⟨rfl, B9⟩
    · have hk1 : k < 1 := by
        by_cases q : 1 ≤ k
        · exact absurd ⟨hsb, q⟩ hgood
        · omega
      go_enter Try.func15, Try.ntmps15
      go_wp2_with fail
      refine CS.mono ?_
      rintro e w1 ⟨rfl, hb⟩
      rw [hsb]
      replace R := R.below hb
      replace B := B.trans (hb.mono B.size)
      clear hb CS e1 e2 e3 l0 l1 l2
      have B9 : Below w.heap.size w ((w1.setCell ⟨w.heap.size + 1, 0, none⟩ (.int .i64 0)).setCell ⟨w.heap.size + 1, 1, none⟩ (.int .i64 0)) := Below.put2 B (Nat.le_succ _) 0 0
      have R9 : Vb ((w1.setCell ⟨w.heap.size + 1, 0, none⟩ (.int .i64 0)).setCell ⟨w.heap.size + 1, 1, none⟩ (.int .i64 0)) (w.heap.size + 1) 0 0 := R.put 0 0
      obtain ⟨r0, r1, r2, r3, r4⟩ := R
      go_wp2_with fail
      generalize ((w1.setCell ⟨w.heap.size + 1, 0, none⟩ (.int .i64 0)).setCell ⟨w.heap.size + 1, 1, none⟩ (.int .i64 0)) = w9 at *
      obtain ⟨m0, m1, m2, m3, m4⟩ := R9
      exact bodyPost_ret (v := .tuple #[.agg #[.int .i64 0, .int .i64 0], .bool false]) (by simp (maxDischargeDepth := 6) [results, Try.results15, go_sem, m1, m2]) rfl ⟨rfl, B9⟩
end Go.Proofs.Ytaggohibfghnmaa
