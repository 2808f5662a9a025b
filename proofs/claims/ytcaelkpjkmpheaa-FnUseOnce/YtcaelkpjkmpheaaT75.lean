/- Use of a table whose list may be nil. -/
import Derived.Test.YtcaelkpjkmpheaaC8
import Derived.Test.YtcaelkpjkmpheaaD9
import Derived.Test.YtcaelkpjkmpheaaT73
import Derived.Deep.RegionHeld3
import Derived.Deep.DeepCutAuto
import Derived.WalkKit
import Derived.WalkSpells
import Derived.WalkLawsBesides
import Derived.Deep.RegionHeld
namespace Go.Proofs.Ytcaelkpjkmpheaa
open Go.RowKit
set_option linter.unusedVariables false
set_option maxHeartbeats 8000000 in
theorem specUse_badO (ep us : Int) (A : Option Addr) (n c : Nat) (M : Nat → KT) (x y : Int) (w : World) (hm : n ≤ maxLen) (hf : FromsO w A M n c) (ht : tabB ep us M n = false) :
    Calls Try.prog 18 #[.agg #[.int .i64 ep, .int .i64 us, .slice A n c], .int .i64 x, .int .i64 y] w fun e w' => ∃ a' c', e = .returned (.tuple #[.agg #[.int .i64 0, .int .i64 0, .slice a' 0 c'], .agg #[.int .i64 0, .int .i64 0, .int .i64 0, .int .i64 0], .int .i64 1]) ∧ w'.ownsRow w.heap.size 34 4 (.slice a' 0 c') 0 (krow M 0) ∧ Below w.heap.size w w' := by
  have N := ((IB3.new w ep us A n c 26).below (Below.nw _ (.cells #[.int .i64 0, .int .i64 0, .slice none 0 0] 26))).below (Below.nw _ (.cells #[.int .i64 0, .int .i64 0, .int .i64 0, .int .i64 0] 34))
  have R := (Bx3.new (w.alloc (.cells #[.int .i64 ep, .int .i64 us, .slice A n c] 26)) (.int .i64 0) (.int .i64 0) (.slice none 0 0) 26).below (Below.nw _ (.cells #[.int .i64 0, .int .i64 0, .int .i64 0, .int .i64 0] 34))
  have R2 := Bf4.new ((w.alloc (.cells #[.int .i64 ep, .int .i64 us, .slice A n c] 26)).alloc (.cells #[.int .i64 0, .int .i64 0, .slice none 0 0] 26)) 0 0 0 0 34
  have CS := ((hf.below (Below.nw w (.cells #[.int .i64 ep, .int .i64 us, .slice A n c] 26))).below (Below.nw _ (.cells #[.int .i64 0, .int .i64 0, .slice none 0 0] 26))).below (Below.nw _ (.cells #[.int .i64 0, .int .i64 0, .int .i64 0, .int .i64 0] 34))
  have A1 := Below.nw w (.cells #[.int .i64 ep, .int .i64 us, .slice A n c] 26)
  have A2 := A1.alloc A1.size (.cells #[.int .i64 0, .int .i64 0, .slice none 0 0] 26)
  have B := A2.alloc A2.size (.cells #[.int .i64 0, .int .i64 0, .int .i64 0, .int .i64 0] 34)
  simp only [World.size_alloc] at R R2
  have C := specTab_any ep us A n c M _ hm CS.src
  clear hf A1 A2
  go_enter Try.func18, Try.ntmps18
  go_upto_region 1 with fail
  generalize ((w.alloc (.cells #[.int .i64 ep, .int .i64 us, .slice A n c] 26)).alloc (.cells #[.int .i64 0, .int .i64 0, .slice none 0 0] 26)).alloc (.cells #[.int .i64 0, .int .i64 0, .int .i64 0, .int .i64 0] 34) = wa at *
  have hJ1 : w.heap.size + 1 + 1 < wa.heap.size := R2.1.1
  obtain ⟨n9, n0, n1, n2⟩ := id N
  go_wp2_with fail
  refine C.mono ?_
  rintro e wz ⟨rfl, hb⟩
  clear n9 n0 n1 n2
  replace N := N.below hb
  replace R := R.below hb
  replace R2 := R2.below hb
  replace CS := CS.below hb
  replace B := B.trans (hb.mono B.size)
  have hzz := hb.size
  clear hb C
  rw [ht]
  have P1 := put3_butK wz (w.heap.size + 1) (.int .i64 0) (.int .i64 0) (.slice none 0 0)
  have RQ := R.set (.int .i64 0) (.int .i64 0) (.slice none 0 0)
  have P2 := put4_but (((wz.setCell ⟨w.heap.size + 1, 0, none⟩ (.int .i64 0)).setCell ⟨w.heap.size + 1, 1, none⟩ (.int .i64 0)).setCell ⟨w.heap.size + 1, 2, none⟩ (.slice none 0 0)) (w.heap.size + 1 + 1) 0 0 0 0
  have RQ2 := (R2.but P1 (by omega)).set 0 0 0 0
  replace RQ := RQ.but P2 (by omega)
  have BQ1 := B.trans (P1.below (B := w.heap.size) (by omega) B.size)
  have BQ := BQ1.trans (P2.below (B := w.heap.size) (by omega) BQ1.size)
  have OQ := World.ownsRow_nil (put4 (((wz.setCell ⟨w.heap.size + 1, 0, none⟩ (.int .i64 0)).setCell ⟨w.heap.size + 1, 1, none⟩ (.int .i64 0)).setCell ⟨w.heap.size + 1, 2, none⟩ (.slice none 0 0)) (w.heap.size + 1 + 1) 0 0 0 0) w.heap.size 34 4
  have KZ : Hid (World.ownsRow _ _ _ _ _ _ _ ∧ Below _ _ _) := ⟨OQ, BQ⟩
  obtain ⟨r0, r1, r2, r3, r4, r5, r6⟩ := R
  obtain ⟨⟨f0, f1, f2, f3, f4⟩, f5, f6, f7, f8⟩ := R2
  clear P1 P2 BQ1 BQ OQ
  unfold put4 at RQ RQ2 KZ
  go_wp2_with fail
  clear r0 r1 r2 r3 r4 r5 r6 f0 f1 f2 f3 f4 f5 f6 f7 f8
  generalize (((((((wz.setCell ⟨w.heap.size + 1, 0, none⟩ (.int .i64 0)).setCell ⟨w.heap.size + 1, 1, none⟩ (.int .i64 0)).setCell ⟨w.heap.size + 1, 2, none⟩ (.slice none 0 0)).setCell ⟨w.heap.size + 1 + 1, 0, none⟩ (.int .i64 0)).setCell ⟨w.heap.size + 1 + 1, 1, none⟩ (.int .i64 0)).setCell ⟨w.heap.size + 1 + 1, 2, none⟩ (.int .i64 0)).setCell ⟨w.heap.size + 1 + 1, 3, none⟩ (.int .i64 0)) = wq at *
  obtain ⟨q0, q1, q2, q3, -, -, -⟩ := RQ
  obtain ⟨⟨g0, g1, g2, g3, g4⟩, -, -, -, -⟩ := RQ2
  exact bodyPost_ret (v := .tuple #[.agg #[.int .i64 0, .int .i64 0, .slice none 0 0], .agg #[.int .i64 0, .int .i64 0, .int .i64 0, .int .i64 0], .int .i64 1]) (by simp (maxDischargeDepth := 6) [results, Try.results18, go_sem, q1, q2, q3, g1, g2, g3, g4]) rfl ⟨_, _, rfl, KZ.out.1, KZ.out.2⟩
set_option maxRecDepth 100000 in
set_option maxHeartbeats 8000000 in
theorem specUse_nil (ep us : Int) (M : Nat → KT) (x y : Int) (w : World) (ht : tabB ep us M 0 = true) :
    Calls Try.prog 18 #[.agg #[.int .i64 ep, .int .i64 us, .slice none 0 0], .int .i64 x, .int .i64 y] w fun e w' => ∃ a' c', e = .returned (.tuple #[.agg #[.int .i64 ep, .int .i64 us, .slice a' 0 c'], .agg #[.int .i64 0, .int .i64 0, .int .i64 0, .int .i64 0], .int .i64 4]) ∧ w'.ownsRow w.heap.size 34 4 (.slice a' 0 c') 0 (krow M 0) ∧ Below w.heap.size w w' := by
  have hf : FromsO w none M 0 0 := .inl ⟨rfl, rfl, rfl⟩
  obtain ⟨i0, hi, hz0, hz1, hz2⟩ := infoK_parts
  have N := ((IB3.new w ep us none 0 0 26).below (Below.nw _ (.cells #[.int .i64 0, .int .i64 0, .slice none 0 0] 26))).below (Below.nw _ (.cells #[.int .i64 0, .int .i64 0, .int .i64 0, .int .i64 0] 34))
  have R := (Bx3.new (w.alloc (.cells #[.int .i64 ep, .int .i64 us, .slice none 0 0] 26)) (.int .i64 0) (.int .i64 0) (.slice none 0 0) 26).below (Below.nw _ (.cells #[.int .i64 0, .int .i64 0, .int .i64 0, .int .i64 0] 34))
  have R2 := Bf4.new ((w.alloc (.cells #[.int .i64 ep, .int .i64 us, .slice none 0 0] 26)).alloc (.cells #[.int .i64 0, .int .i64 0, .slice none 0 0] 26)) 0 0 0 0 34
  have CS := ((hf.below (Below.nw w (.cells #[.int .i64 ep, .int .i64 us, .slice none 0 0] 26))).below (Below.nw _ (.cells #[.int .i64 0, .int .i64 0, .slice none 0 0] 26))).below (Below.nw _ (.cells #[.int .i64 0, .int .i64 0, .int .i64 0, .int .i64 0] 34))
  have A1 := Below.nw w (.cells #[.int .i64 ep, .int .i64 us, .slice none 0 0] 26)
  have A2 := A1.alloc A1.size (.cells #[.int .i64 0, .int .i64 0, .slice none 0 0] 26)
  have B := A2.alloc A2.size (.cells #[.int .i64 0, .int .i64 0, .int .i64 0, .int .i64 0] 34)
  simp only [World.size_alloc] at R R2
  have C := specTab_any ep us none 0 0 M _ (by simp [maxLen]) CS.src
  clear hf A1 A2
  go_enter Try.func18, Try.ntmps18
  go_upto_region 1 with fail
  generalize ((w.alloc (.cells #[.int .i64 ep, .int .i64 us, .slice none 0 0] 26)).alloc (.cells #[.int .i64 0, .int .i64 0, .slice none 0 0] 26)).alloc (.cells #[.int .i64 0, .int .i64 0, .int .i64 0, .int .i64 0] 34) = wa at *
  have hJ1 : w.heap.size + 1 + 1 < wa.heap.size := R2.1.1
  obtain ⟨n9, n0, n1, n2⟩ := id N
  go_wp2_with fail
  refine C.mono ?_
  rintro e wz ⟨rfl, hb⟩
  clear n9 n0 n1 n2
  replace N := N.below hb
  replace R := R.below hb
  replace R2 := R2.below hb
  replace CS := CS.below hb
  replace B := B.trans (hb.mono B.size)
  have hzz := hb.size
  clear hb C
  rw [ht]
  clear ht
  have A3 := Below.nw wz (.cells #[.int .i64 ep, .int .i64 us, .slice none 0 0] 26)
  have A4 := Below.nw (wz.alloc (.cells #[.int .i64 ep, .int .i64 us, .slice none 0 0] 26)) (.cells #[.int .i64 0, .int .i64 0, .int .i64 0, .int .i64 0] 34)
  have O := (Bx3.new wz (.int .i64 ep) (.int .i64 us) (.slice none 0 0) 26).below A4
  have Fx := Bf4.new (wz.alloc (.cells #[.int .i64 ep, .int .i64 us, .slice none 0 0] 26)) 0 0 0 0 34
  simp only [World.size_alloc] at Fx
  obtain ⟨n9, n0, n1, n2⟩ := id N
  have hjo : w.heap.size + 1 + 1 < wz.heap.size := by omega
  go_upto_region 6 with fail
  clear n9 n0 n1 n2
  replace N := (N.below A3).below A4
  replace R := (R.below A3).below A4
  replace R2 := (R2.below A3).below A4
  replace CS := (CS.below A3).below A4
  replace B := (B.trans (A3.mono B.size)).trans (A4.mono (B.trans (A3.mono B.size)).size)
  clear A3 A4
  generalize wz.heap.size = bo at *
  generalize (wz.alloc (.cells #[.int .i64 ep, .int .i64 us, .slice none 0 0] 26)).alloc (.cells #[.int .i64 0, .int .i64 0, .int .i64 0, .int .i64 0] 34) = v1 at *
  go_wp2_with fail
  go_loopw [11, 12] (fun s11 s12 wr => s12 = .int .i64 0 ∧ s11 = .int .i64 4 ∧ v1 = wr) (fun _ _ _ => 0)
  case atStart => exact ⟨rfl, rfl, rfl⟩
  case round =>
    obtain ⟨rfl, rfl, rfl⟩ := hrel
    obtain ⟨n0, n1, n2, n3⟩ := id N
    go_wp2_with fail
    refine (l7Copy_opt ep us none 0 0 M _ (by omega) CS).mono ?_
    rintro e w6 ⟨a', c', rfl, OW, hb6⟩
    have hw5 : w.heap.size + 1 + 1 < v1.heap.size := R2.1.1
    replace R := R.below hb6
    replace R2 := R2.below hb6
    have hw56 : w.heap.size ≤ v1.heap.size := by omega
    replace B := B.trans (hb6.mono B.size)
    clear hb6 CS N n0 n1 n2 n3
    have P1 := put3_butK w6 (w.heap.size + 1) (.int .i64 ep) (.int .i64 us) (.slice a' 0 c')
    have RQ := R.set (.int .i64 ep) (.int .i64 us) (.slice a' 0 c')
    have P2 := put4_but (((w6.setCell ⟨w.heap.size + 1, 0, none⟩ (.int .i64 ep)).setCell ⟨w.heap.size + 1, 1, none⟩ (.int .i64 us)).setCell ⟨w.heap.size + 1, 2, none⟩ (.slice a' 0 c')) (w.heap.size + 1 + 1) 0 0 0 0
    have RQ2 := (R2.but P1 (by omega)).set 0 0 0 0
    replace RQ := RQ.but P2 (by omega)
    have BQ1 := B.trans (P1.below (B := w.heap.size) (by omega) B.size)
    have BQ := BQ1.trans (P2.below (B := w.heap.size) (by omega) BQ1.size)
    have OQ := ownK_le (base' := w.heap.size) (own_butK (own_butK OW P1 (by omega)) P2 (by omega)) hw56
    have KZ : Hid (World.ownsRow _ _ _ _ _ _ _ ∧ Below _ _ _) := ⟨OQ, BQ⟩
    obtain ⟨r0, r1, r2, r3, r4, r5, r6⟩ := R
    obtain ⟨⟨f0, f1, f2, f3, f4⟩, f5, f6, f7, f8⟩ := R2
    clear P1 P2 BQ1 BQ OQ
    unfold put4 at RQ RQ2 KZ
    go_wp2_with fail
    clear r0 r1 r2 r3 r4 r5 r6 f0 f1 f2 f3 f4 f5 f6 f7 f8
    generalize (((((((w6.setCell ⟨w.heap.size + 1, 0, none⟩ (.int .i64 ep)).setCell ⟨w.heap.size + 1, 1, none⟩ (.int .i64 us)).setCell ⟨w.heap.size + 1, 2, none⟩ (.slice a' 0 c')).setCell ⟨w.heap.size + 1 + 1, 0, none⟩ (.int .i64 0)).setCell ⟨w.heap.size + 1 + 1, 1, none⟩ (.int .i64 0)).setCell ⟨w.heap.size + 1 + 1, 2, none⟩ (.int .i64 0)).setCell ⟨w.heap.size + 1 + 1, 3, none⟩ (.int .i64 0)) = wq at *
    obtain ⟨q0, q1, q2, q3, -, -, -⟩ := RQ
    obtain ⟨⟨g0, g1, g2, g3, g4⟩, -, -, -, -⟩ := RQ2
    exact bodyPost_ret (v := .tuple #[.agg #[.int .i64 ep, .int .i64 us, .slice a' 0 c'], .agg #[.int .i64 0, .int .i64 0, .int .i64 0, .int .i64 0], .int .i64 4]) (by simp (maxDischargeDepth := 6) [results, Try.results18, go_sem, q1, q2, q3, g1, g2, g3, g4]) rfl ⟨_, _, rfl, KZ.out.1, KZ.out.2⟩
/- Use of a table whose row is one's own, the specification's and the program's. -/
theorem specUse_own (ep us : Int) (base : Nat) (A : Option Addr) (n c : Nat) (M : Nat → KT) (x y Xe Xu : Int) (mm : Nat) (G : Nat → KT) (z0 z1 z2 z3 C1 : Int) (w : World) (hm : n ≤ 900) (O : w.ownsRow base 34 4 (.slice A n c) n (krow M n)) (h : UseIs ep us M n x y Xe Xu mm G z0 z1 z2 z3 C1) :
    Calls Try.prog 18 #[.agg #[.int .i64 ep, .int .i64 us, .slice A n c], .int .i64 x, .int .i64 y] w fun e w' => ∃ a' c', e = .returned (.tuple #[.agg #[.int .i64 Xe, .int .i64 Xu, .slice a' mm c'], .agg #[.int .i64 z0, .int .i64 z1, .int .i64 z2, .int .i64 z3], .int .i64 C1]) ∧ w'.ownsRow w.heap.size 34 4 (.slice a' mm c') mm (krow G mm) ∧ Below w.heap.size w w' := by
  have hmx : n ≤ maxLen := by unfold maxLen; omega
  rcases O.2 with ⟨he, h0⟩ | ⟨g, cap, cur, he, _, hg, _⟩
  · simp at he
    obtain ⟨rfl, rfl, rfl⟩ := he
    rcases h with ⟨h, rfl, rfl, rfl, rfl, rfl, rfl, rfl, rfl, rfl⟩ | ⟨h, hno, rfl, rfl, rfl, rfl, rfl, rfl, rfl, rfl, rfl⟩ | ⟨h, i, hi, _⟩ | ⟨h, i, hi, _⟩
    · exact specUse_badO _ _ _ _ 0 _ x y w hmx (.inl ⟨rfl, rfl, rfl⟩) h
    · exact specUse_nil _ _ _ x y w h
    · omega
    · omega
  · simp at he
    obtain ⟨rfl, _⟩ := he
    refine specUse_ans ep us g n c M x y Xe Xu mm G z0 z1 z2 z3 C1 w hmx ?_ h
    by_cases h0 : n = 0
    · subst h0
      exact ⟨(Array.getElem?_eq_some_iff.1 hg).1, fun j hj => by omega⟩
    · obtain ⟨b, off, e, CS⟩ := own_at7 O (by omega)
      simp only [Option.some.injEq, Addr.mk.injEq, and_true] at e
      obtain ⟨rfl, rfl⟩ := e
      exact CS
theorem implUse_own (ep us : Int) (base : Nat) (A : Option Addr) (n c : Nat) (M : Nat → KT) (x y Xe Xu : Int) (mm : Nat) (G : Nat → KT) (z0 z1 z2 z3 C1 : Int) (w : World) (hm : n ≤ 900) (O : w.ownsRow base 34 4 (.slice A n c) n (krow M n)) (hw : ∀ i, i < n → (Lit.int .i64 (M i).1).wf = true) (wx : (Lit.int .i64 x).wf = true) (h : UseIs ep us M n x y Xe Xu mm G z0 z1 z2 z3 C1) :
    Calls Try.prog 12 #[.agg #[.int .i64 ep, .int .i64 us, .slice A n c], .int .i64 x, .int .i64 y] w fun e w' => ∃ a' c', e = .returned (.tuple #[.agg #[.int .i64 Xe, .int .i64 Xu, .slice a' mm c'], .agg #[.int .i64 z0, .int .i64 z1, .int .i64 z2, .int .i64 z3], .int .i64 C1]) ∧ w'.ownsRow w.heap.size 34 4 (.slice a' mm c') mm (krow G mm) ∧ Below w.heap.size w w' := by
  have hmx : n ≤ maxLen := by unfold maxLen; omega
  have hs := own_srcK O
  rcases h with ⟨h, rfl, rfl, rfl, rfl, rfl, rfl, rfl, rfl, rfl⟩ | ⟨h, hno, rfl, rfl, rfl, rfl, rfl, rfl, rfl, rfl, rfl⟩ | ⟨h, i, hi, hx, hy, rfl, rfl, rfl, rfl, rfl, rfl, rfl, rfl, rfl⟩ | ⟨h, i, hi, hx, hy, rfl, rfl, rfl, rfl, hM, rfl⟩
  · exact implUse_bad _ _ _ _ c _ x y w hmx hs hw h
  · exact implUse_none _ _ _ _ c _ x y w hmx hs hw wx h ((FA.lk (tOk_asc (tabB_tOk h))).2.2 x hno)
  · obtain ⟨a0, a1, a2, a3, hM⟩ := tupAsk G i
    refine implUse_other _ _ _ _ c _ x y w hmx hs hw wx h a0 a1 a2 a3 ?_ ?_
    · have := lkK_at (tOk_asc (tabB_tOk h)) hi
      rw [hx] at this
      exact this.trans (congrArg some hM)
    · rw [hM] at hy; exact bne_iff_ne.2 hy
  · have e : z1 = y := by rw [hM] at hy; exact hy
    subst e
    exact implUse_done _ _ _ _ c _ x w hmx hs hw wx h z0 z1 z2 z3 i hi hM (by rw [hM] at hx; exact hx)
end Go.Proofs.Ytcaelkpjkmpheaa
