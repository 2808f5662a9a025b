/- Contracts of spec.l7Copy and spec.l7Put, also of a list that is nil. -/
import Derived.Test.YtgempaoamamaeaaGreatM61
import Derived.Test.YtgempaoamamaeaaGreatM62
namespace Go.Proofs.YtgempaoamamaeaaGreat
open Go.RowKit
set_option linter.unusedVariables false
set_option maxRecDepth 100000 in
set_option maxHeartbeats 8000000 in
theorem l7Put_opt (ep us x y z nn : Int) (A : Option Addr) (n c : Nat) (M : Nat → KT) (w : World) (hn : n ≤ 900) (hf : FromsO w A M n c) (hep : 0 ≤ ep ∧ ep ≤ 100000) (hus : 0 ≤ us ∧ us ≤ 1000) (hnn : ep * 1000 + us = nn) :
    Calls Tryz.prog 82 #[.agg #[.int .i64 ep, .int .i64 us, .slice A n c], .int .i64 x, .int .i64 y, .int .i64 z] w fun e w' => ∃ a' c', e = .returned (.tuple #[.agg #[.int .i64 ep, .int .i64 (us + 1), .slice a' (n + 1) c'], .agg #[.int .i64 nn, .int .i64 x, .int .i64 y, .int .i64 z]]) ∧ w'.ownsRow w.heap.size 125 4 (.slice a' (n + 1) c') (n + 1) (krow (addG M n (kT nn x y z)) (n + 1)) ∧ Below w.heap.size w w' := by
  obtain ⟨i0, hi, hz0, hz1, hz2⟩ := infoK_parts
  have w1 : IntKind.i64.wrap (ep * 1000) = ep * 1000 := Go.IntWalk.i64_in _ ⟨by omega, by omega⟩
  have w2 : IntKind.i64.wrap (ep * 1000 + us) = nn := by rw [hnn]; exact Go.IntWalk.i64_in _ ⟨by omega, by omega⟩
  have w3 : IntKind.i64.wrap (us + 1) = us + 1 := Go.IntWalk.i64_in _ ⟨by omega, by omega⟩
  have HW : Hid (krow M n ++ [.int .i64 nn, .int .i64 x, .int .i64 y, .int .i64 z] = krow (addG M n (kT nn x y z)) (n + 1)) := by
    have e : krow M n = krow (addG M n (kT nn x y z)) n := krow_congr fun j hj => (if_neg (by omega)).symm
    rw [Hid, e]
    exact krow_add (if_pos rfl)
  have N := ((IB3.new w ep us A n c 52).below (Below.nw _ (.cells #[.int .i64 0, .int .i64 0, .slice none 0 0] 52))).below (Below.nw _ (.cells #[.int .i64 0, .int .i64 0, .int .i64 0, .int .i64 0] 125))
  have R := (Bx3.new (w.alloc (.cells #[.int .i64 ep, .int .i64 us, .slice A n c] 52)) (.int .i64 0) (.int .i64 0) (.slice none 0 0) 52).below (Below.nw _ (.cells #[.int .i64 0, .int .i64 0, .int .i64 0, .int .i64 0] 125))
  have R2 := Bf4.new ((w.alloc (.cells #[.int .i64 ep, .int .i64 us, .slice A n c] 52)).alloc (.cells #[.int .i64 0, .int .i64 0, .slice none 0 0] 52)) 0 0 0 0 125
  have A1 := Below.nw w (.cells #[.int .i64 ep, .int .i64 us, .slice A n c] 52)
  have A2 := A1.alloc A1.size (.cells #[.int .i64 0, .int .i64 0, .slice none 0 0] 52)
  have B := A2.alloc A2.size (.cells #[.int .i64 0, .int .i64 0, .int .i64 0, .int .i64 0] 125)
  have CS := ((hf.below A1).below (Below.nw _ (.cells #[.int .i64 0, .int .i64 0, .slice none 0 0] 52))).below (Below.nw _ (.cells #[.int .i64 0, .int .i64 0, .int .i64 0, .int .i64 0] 125))
  simp only [World.size_alloc] at R R2
  clear hf A1 A2 hep hus hnn
  go_enter Tryz.func82, Tryz.ntmps82
  go_upto_region 1 with fail
  generalize ((w.alloc (.cells #[.int .i64 ep, .int .i64 us, .slice A n c] 52)).alloc (.cells #[.int .i64 0, .int .i64 0, .slice none 0 0] 52)).alloc (.cells #[.int .i64 0, .int .i64 0, .int .i64 0, .int .i64 0] 125) = v at *
  have A3 := Below.nw v (.cells #[.int .i64 nn, .int .i64 x, .int .i64 y, .int .i64 z] 125)
  have Kx := Bf4.new v nn x y z 125
  have hJv : w.heap.size + 1 + 1 < v.heap.size := R2.1.1
  obtain ⟨n0, n1, n2, n3⟩ := id N
  go_upto_region 2 with fail
  clear n0 n1 n2 n3 w1 w2
  replace N := N.below A3
  replace R := R.below A3
  replace R2 := R2.below A3
  replace CS := CS.below A3
  replace B := B.trans (A3.mono B.size)
  clear A3
  generalize hbk : v.heap.size = bk at *
  generalize v.alloc (.cells #[.int .i64 nn, .int .i64 x, .int .i64 y, .int .i64 z] 125) = v1 at *
  obtain ⟨n0, n1, n2, n3⟩ := id N
  go_wp2_with fail
  have hkv : bk < v1.heap.size := Kx.1.1
  refine (l7Copy_opt ep us A n c M v1 (by omega) CS).mono ?_
  rintro e v2 ⟨a1, c1, rfl, O, hb⟩
  clear n0 n1 n2 n3 N CS
  replace R := R.below hb
  replace R2 := R2.below hb
  replace Kx := Kx.below hb
  replace B := B.trans (hb.mono B.size)
  have hv12 := hb.size
  clear hb
  have A4 := Below.nw v2 (.cells #[.int .i64 ep, .int .i64 us, .slice a1 n c1] 52)
  have Ox := Bx3.new v2 (.int .i64 ep) (.int .i64 us) (.slice a1 n c1) 52
  have OL : ∀ g, (Value.slice a1 n c1).ownBlock = some g → v1.heap.size ≤ g ∧ g < v2.heap.size := fun g hg => World.ownsRow.lt O g hg
  replace R := R.below A4
  replace R2 := R2.below A4
  replace Kx := Kx.below A4
  replace O := own_belK' O A4
  replace B := B.trans (A4.mono B.size)
  clear A4
  go_upto_region 3 with fail
  generalize hbo : v2.heap.size = bo at *
  generalize v2.alloc (.cells #[.int .i64 ep, .int .i64 us, .slice a1 n c1] 52) = v3 at *
  obtain ⟨o0, o1, o2, o3, o4, o5, o6⟩ := id Ox
  obtain ⟨⟨k0, k1, k2, k3, k4⟩, -, -, -, -⟩ := id Kx
  have O' := World.ownsRow.alloc O (.cells #[.int .i64 nn, .int .i64 x, .int .i64 y, .int .i64 z] 125)
  have HN : Hid (∀ j u, [Value.int .i64 nn, .int .i64 x, .int .i64 y, .int .i64 z][j]? = some u → (v3.alloc (.cells #[.int .i64 nn, .int .i64 x, .int .i64 y, .int .i64 z] 125)).cell? ((⟨v3.heap.size, 0, none⟩ : Addr).add j) = some u) := fun j u hu => four_at v3 nn x y z 125 j u hu
  go_wp2_with (at_builtin; refine wpList_append_own _ rfl _ _ 50 rfl v1.heap.size 125 i0 (.agg #[.int .i64 0, .int .i64 0, .int .i64 0, .int .i64 0]) 4 32 Tryz.underlying50 hi hz0 hz1 hz2 rfl (by decide) _ _ _ rfl O' ⟨v3.heap.size, 0, none⟩ 1 1 [.int .i64 nn, .int .i64 x, .int .i64 y, .int .i64 z] rfl rfl HN.out (four_one _ _ _ _) ?c3 ?c4 ?c5 ?_)
  case c3 => unfold maxLen; omega
  case c4 => omega
  case c5 => simp; omega
  intro v' wn hown' hgrow _
  rw [HW.out] at hown'
  clear k0 k1 k2 k3 k4 o0 o1 o2 o3 o4 o5 o6 HN HW
  have A5 := Below.nw v3 (.cells #[.int .i64 nn, .int .i64 x, .int .i64 y, .int .i64 z] 125)
  have hs5 := A5.size
  replace R := (R.below A5).kept3 hgrow (fun e => by have := OL _ e.symm; omega)
  replace R2 := (R2.below A5).kept hgrow (fun e => by have := OL _ e.symm; omega)
  replace Kx := (Kx.below A5).kept hgrow (fun e => by have := OL _ e.symm; omega)
  replace Ox := (Ox.below A5).kept3 hgrow (fun e => by have := OL _ e.symm; omega)
  replace B := (B.trans (A5.mono B.size)).trans (grown_bel hgrow (B.trans (A5.mono B.size)).size (fun b h e => by have := OL _ e.symm; omega))
  clear A5 O O' hgrow
  obtain ⟨a', c', rfl, _, _, _⟩ := ownF_src hown'
  -- the row lies apart from the box of the copy
  have PB := But.oneK wn bo 2 (.slice a' (n + 1) c')
  have hno : ∀ g, (Value.slice a' (n + 1) c').ownBlock = some g → g ≠ bo := own_cells3 hown' Ox (fun _ _ h => by cases h)
  replace hown' := own_neK hown' PB hno
  replace R := R.but PB (by omega)
  replace R2 := R2.but PB (by omega)
  replace Kx := Kx.but PB (by omega)
  replace B := B.trans (PB.below (B := w.heap.size) (by omega) B.size)
  have O2 := Ox.set2 (.slice a' (n + 1) c')
  obtain ⟨o0, o1, o2, o3, o4, o5, o6⟩ := Ox
  clear PB
  go_upto_region 4 with fail
  clear o0 o1 o2 o3 o4 o5 o6
  generalize wn.setCell ⟨bo, 2, none⟩ (.slice a' (n + 1) c') = v5 at *
  have PB := But.oneK v5 bo 1 (.int .i64 (us + 1))
  replace hown' := own_neK hown' PB hno
  replace R := R.but PB (by omega)
  replace R2 := R2.but PB (by omega)
  replace Kx := Kx.but PB (by omega)
  replace B := B.trans (PB.below (B := w.heap.size) (by omega) B.size)
  have O3 := O2.set1 (.int .i64 (us + 1))
  obtain ⟨o0, o1, o2, o3, o4, o5, o6⟩ := O2
  clear PB
  go_upto_region 5 with fail
  clear o0 o1 o2 o3 o4 o5 o6
  generalize v5.setCell ⟨bo, 1, none⟩ (.int .i64 (us + 1)) = v6 at *
  have P1 := put3_butK v6 (w.heap.size + 1) (.int .i64 ep) (.int .i64 (us + 1)) (.slice a' (n + 1) c')
  have RQ := R.set (.int .i64 ep) (.int .i64 (us + 1)) (.slice a' (n + 1) c')
  have P2 := put4_but ((((v6.setCell ⟨w.heap.size + 1, 0, none⟩ (.int .i64 ep)).setCell ⟨w.heap.size + 1, 1, none⟩ (.int .i64 (us + 1))).setCell ⟨w.heap.size + 1, 2, none⟩ (.slice a' (n + 1) c'))) (w.heap.size + 1 + 1) nn x y z
  have RQ2 := (R2.but P1 (by omega)).set nn x y z
  replace RQ := RQ.but P2 (by omega)
  have BQ1 := B.trans (P1.below (B := w.heap.size) (by omega) B.size)
  have BQ := BQ1.trans (P2.below (B := w.heap.size) (by omega) BQ1.size)
  have OQ := ownK_le (base' := w.heap.size) (own_butK (own_butK hown' P1 (by omega)) P2 (by omega)) (by omega)
  have KZ : Hid (World.ownsRow _ _ _ _ _ _ _ ∧ Below _ _ _) := ⟨OQ, BQ⟩
  obtain ⟨o0, o1, o2, o3, -, -, -⟩ := O3
  obtain ⟨⟨k0, k1, k2, k3, k4⟩, -, -, -, -⟩ := Kx
  obtain ⟨r0, r1, r2, r3, r4, r5, r6⟩ := R
  obtain ⟨⟨f0, f1, f2, f3, f4⟩, f5, f6, f7, f8⟩ := R2
  clear P1 P2 BQ1 BQ OQ hown' OL hno
  unfold put4 at RQ RQ2 KZ
  go_region
  clear o0 o1 o2 o3 k0 k1 k2 k3 k4 r0 r1 r2 r3 r4 r5 r6 f0 f1 f2 f3 f4 f5 f6 f7 f8 B
  generalize ((((((v6.setCell ⟨w.heap.size + 1, 0, none⟩ (.int .i64 ep)).setCell ⟨w.heap.size + 1, 1, none⟩ (.int .i64 (us + 1))).setCell ⟨w.heap.size + 1, 2, none⟩ (.slice a' (n + 1) c')).setCell ⟨w.heap.size + 1 + 1, 0, none⟩ (.int .i64 nn)).setCell ⟨w.heap.size + 1 + 1, 1, none⟩ (.int .i64 x)).setCell ⟨w.heap.size + 1 + 1, 2, none⟩ (.int .i64 y)).setCell ⟨w.heap.size + 1 + 1, 3, none⟩ (.int .i64 z) = wz at *
  obtain ⟨q0, q1, q2, q3, -, -, -⟩ := RQ
  obtain ⟨⟨g0, g1, g2, g3, g4⟩, -, -, -, -⟩ := RQ2
  go_wp2_with fail
  exact bodyPost_ret (v := .tuple #[.agg #[.int .i64 ep, .int .i64 (us + 1), .slice a' (n + 1) c'], .agg #[.int .i64 nn, .int .i64 x, .int .i64 y, .int .i64 z]]) (by simp (maxDischargeDepth := 6) [results, Tryz.results82, go_sem, *]) rfl ⟨a', c', rfl, World.ownsRow.drew KZ.out.1, Below.drew KZ.out.2⟩
end Go.Proofs.YtgempaoamamaeaaGreat
