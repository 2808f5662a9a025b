/- Contracts of the book its take and of impl.Use. -/
import Derived.Test.YtlaladalnbdhpaaB8
import Derived.Deep.RegionHeld3
import Derived.Deep.DeepCutAuto
import Derived.WalkKit
import Derived.WalkSpells
import Derived.WalkLawsBesides
import Derived.Deep.RegionHeld
namespace Go.Proofs.Ytlaladalnbdhpaa
open Go.RowKit
set_option linter.unusedVariables false
theorem cellO {w : World} {b j i k : Nat} {u : Value} (h : ¬ b = j) : (w.setCell ⟨j, i, none⟩ u).cell? ⟨b, k, none⟩ = w.cell? ⟨b, k, none⟩ := World.cell?_setCell_other _ _ _ _ (fun e => h (congrArg Addr.block e).symm)
theorem Bf4.bel {w w' : World} {B j : Nat} {x0 x1 x2 x3 : Int} (h : Bf4 w j x0 x1 x2 x3) (hb : Below B w w') (hj : j < B) : Bf4 w' j x0 x1 x2 x3 := by
  obtain ⟨⟨h0, c0, c1, c2, c3⟩, f0, f1, f2, f3⟩ := h
  exact ⟨⟨Nat.lt_of_lt_of_le h0 hb.size, by rw [hb.cell (p := ⟨j, 0, none⟩) hj]; exact c0, by rw [hb.cell (p := ⟨j, 1, none⟩) hj]; exact c1, by rw [hb.cell (p := ⟨j, 2, none⟩) hj]; exact c2, by rw [hb.cell (p := ⟨j, 3, none⟩) hj]; exact c3⟩, by rw [hb.frozen (p := ⟨j, 0, none⟩) hj]; exact f0, by rw [hb.frozen (p := ⟨j, 1, none⟩) hj]; exact f1, by rw [hb.frozen (p := ⟨j, 2, none⟩) hj]; exact f2, by rw [hb.frozen (p := ⟨j, 3, none⟩) hj]; exact f3⟩
def cutK (M : Nat → KT) (i j : Nat) : KT := if j < i then M j else M (j + 1)
theorem FA.cut {F : Int → Option KT} {A : Nat → KT} {m i : Nat} (h : FA F A m) (hi : i < m) {x : Int} (hx : (A i).1 = x) : FA (fun q => if q = x then none else F q) (cutK A i) (m - 1) := by
  have at1 : ∀ j, j < m - 1 → ∃ t, t < m ∧ t ≠ i ∧ cutK A i j = A t ∧ t = (if j < i then j else j + 1) := fun j hj => by
    by_cases e : j < i
    · exact ⟨j, by omega, by omega, if_pos e, (if_pos e).symm⟩
    · exact ⟨j + 1, by omega, by omega, if_neg e, (if_neg e).symm⟩
  refine ⟨fun a b hab hb => ?_, fun j hj => ?_, fun q hq => ?_⟩
  · obtain ⟨t, t1, t2, t3, t4⟩ := at1 a (by omega)
    obtain ⟨s, s1, s2, s3, s4⟩ := at1 b hb
    rw [t3, s3]
    refine h.1 t s ?_ s1
    rw [t4, s4]; split <;> split <;> omega
  · obtain ⟨t, t1, t2, t3, _⟩ := at1 j hj
    show (if (cutK A i j).1 = x then none else F (cutK A i j).1) = some (cutK A i j)
    rw [t3]
    refine (if_neg ?_).trans (h.2.1 t t1)
    rw [← hx]
    rcases Nat.lt_or_gt_of_ne t2 with q | q
    · have := h.1 t i q hi; omega
    · have := h.1 i t q t1; omega
  · show (if q = x then none else F q) = none
    by_cases e : q = x
    · exact if_pos e
    · refine (if_neg e).trans (h.2.2 q fun j hj => ?_)
      by_cases e2 : j = i
      · subst e2; rw [hx]; exact fun c => e c.symm
      · by_cases e3 : j < i
        · have := hq j (by omega); unfold cutK at this; rw [if_pos e3] at this; exact this
        · have := hq (j - 1) (by omega); unfold cutK at this; rw [if_neg (by omega), show j - 1 + 1 = j by omega] at this; exact this
set_option maxRecDepth 100000 in
set_option maxHeartbeats 8000000 in
theorem take_any (bx bm n base bo : Nat) (ep us x y0 y1 y2 y3 : Int) (F : Int → Option KT) (w : World) (X : Bx3 w bx (.int .i64 ep) (.int .i64 us) (.map (some bm))) (MP : MapK w bm n F) (hwx : (Lit.int .i64 x).wf = true) (hF : (F x).getD zK = kT y0 y1 y2 y3) (hne : bx ≠ bm) (h2 : base ≤ bm) (h3 : base ≤ w.heap.size) (k0' k1' k2' k3' : Int) (hKb : Bf4 w bo k0' k1' k2' k3') (hbo : bo ≠ bm) :
    Calls Try.prog 28 #[.pointer (some ⟨bx, 0, none⟩), .int .i64 x] w fun e w' => e = .returned (.agg #[.int .i64 y0, .int .i64 y1, .int .i64 y2, .int .i64 y3]) ∧ Bx3 w' bx (.int .i64 ep) (.int .i64 us) (.map (some bm)) ∧ MapK w' bm n (fun q => if q = x then none else F q) ∧ Bf4 w' bo k0' k1' k2' k3' ∧ Below base w w' := by
  have hboj := hKb.1.1
  have A0 := Below.nw w (.cells #[.int .i64 0, .int .i64 0, .int .i64 0, .int .i64 0] 34)
  have R := Bf4.new w 0 0 0 0 34
  have B := A0
  have hbx := X.1
  have hbm := MP.lt
  replace X := X.below A0
  replace MP := MP.below A0
  replace hKb := hKb.below A0
  clear A0
  go_enter Try.func28, Try.ntmps28
  go_upto_region 1 with fail
  generalize w.alloc (.cells #[.int .i64 0, .int .i64 0, .int .i64 0, .int .i64 0] 34) = wa at *
  obtain ⟨x0, x1, x2, x3, -, -, -⟩ := id X
  have hlook := MP.look hwx
  rw [hF] at hlook
  simp only [kv, kT] at hlook
  have hwa : w.heap.size < wa.heap.size := R.1.1
  go_upto_region 2 with fail
  clear x0 x1 x2 x3
  clear hlook hF
  have A1 := Below.nw wa (.cells #[.int .i64 y0, .int .i64 y1, .int .i64 y2, .int .i64 y3] 34)
  have Kx := Bf4.new wa y0 y1 y2 y3 34
  replace X := X.below A1
  replace MP := MP.below A1
  replace R := R.below A1
  replace hKb := hKb.below A1
  replace B := B.trans (A1.mono B.size)
  clear A1
  generalize hbk : wa.heap.size = bk at *
  generalize wa.alloc (.cells #[.int .i64 y0, .int .i64 y1, .int .i64 y2, .int .i64 y3] 34) = wb at *
  obtain ⟨w10, hdel, MP1, hg⟩ := MP.del hwx 0
  have HD : ∀ ty, (Builtin.delete_ #[48, 3] ty #[.map (some bm), .int .i64 x]).run Try.prog wb = .ok (.tuple #[]) w10 := fun ty => hdel
  obtain ⟨x0, x1, x2, x3, -, -, -⟩ := id X
  go_upto_region 3 with fail
  clear x0 x1 x2 x3
  have PB := But.ofGrownK hg
  replace X := X.but PB hne
  replace R := R.but PB (by omega)
  replace Kx := Kx.but PB (by omega)
  replace hKb := hKb.but PB hbo
  have B1 : Below base w w10 := (B.mono h3).trans (PB.below h2 (Nat.le_trans h3 B.size))
  clear hg PB HD hdel MP B
  have P7 := put4_but w10 w.heap.size y0 y1 y2 y3
  have RQ := R.set y0 y1 y2 y3
  have XQ := X.but P7 (by omega)
  have MQ := MP1.but P7 (by omega)
  have KQ := hKb.but P7 (by omega)
  have BQ := B1.trans (P7.below h3 (Nat.le_trans h3 B1.size))
  obtain ⟨⟨r0, r1, r2, r3, r4⟩, r5, r6, r7, r8⟩ := R
  obtain ⟨⟨k0, k1, k2, k3, k4⟩, -, -, -, -⟩ := Kx
  clear X MP1 P7 hKb
  go_wp2_with fail
  unfold put4 at RQ XQ MQ BQ KQ
  generalize (((w10.setCell ⟨w.heap.size, 0, none⟩ (.int .i64 y0)).setCell ⟨w.heap.size, 1, none⟩ (.int .i64 y1)).setCell ⟨w.heap.size, 2, none⟩ (.int .i64 y2)).setCell ⟨w.heap.size, 3, none⟩ (.int .i64 y3) = wq at *
  obtain ⟨⟨q0, q1, q2, q3, q4⟩, -, -, -, -⟩ := RQ
  exact bodyPost_ret (v := .agg #[.int .i64 y0, .int .i64 y1, .int .i64 y2, .int .i64 y3]) (by simp (maxDischargeDepth := 6) [results, Try.results28, go_sem, q1, q2, q3, q4]) rfl ⟨rfl, XQ, MQ, KQ, BQ⟩
set_option maxHeartbeats 8000000 in
theorem implUse_bad (ep us : Int) (a : Option Addr) (n c : Nat) (M : Nat → KT) (x y : Int) (w : World) (hm : n ≤ maxLen) (hf : SrcC w a (n * 4) (MFAsk M)) (hw : ∀ i, i < n → (Lit.int .i64 (M i).1).wf = true) (ht : tabB ep us M n = false) :
    Calls Try.prog 10 #[.agg #[.int .i64 ep, .int .i64 us, .slice a n c], .int .i64 x, .int .i64 y] w fun e w' => ∃ a' c', e = .returned (.tuple #[.agg #[.int .i64 0, .int .i64 0, .slice a' 0 c'], .agg #[.int .i64 0, .int .i64 0, .int .i64 0, .int .i64 0], .int .i64 1]) ∧ w'.ownsRow w.heap.size 34 4 (.slice a' 0 c') 0 (krow M 0) ∧ Below w.heap.size w w' := by
  have N := ((IB3.new w ep us a n c 26).below (Below.nw _ (.cells #[.int .i64 0, .int .i64 0, .slice none 0 0] 26))).below (Below.nw _ (.cells #[.int .i64 0, .int .i64 0, .int .i64 0, .int .i64 0] 34))
  have R := (Bx3.new (w.alloc (.cells #[.int .i64 ep, .int .i64 us, .slice a n c] 26)) (.int .i64 0) (.int .i64 0) (.slice none 0 0) 26).below (Below.nw _ (.cells #[.int .i64 0, .int .i64 0, .int .i64 0, .int .i64 0] 34))
  have R2 := Bf4.new ((w.alloc (.cells #[.int .i64 ep, .int .i64 us, .slice a n c] 26)).alloc (.cells #[.int .i64 0, .int .i64 0, .slice none 0 0] 26)) 0 0 0 0 34
  have A1 := Below.nw w (.cells #[.int .i64 ep, .int .i64 us, .slice a n c] 26)
  have A2 := A1.alloc A1.size (.cells #[.int .i64 0, .int .i64 0, .slice none 0 0] 26)
  have B := A2.alloc A2.size (.cells #[.int .i64 0, .int .i64 0, .int .i64 0, .int .i64 0] 34)
  simp only [World.size_alloc] at R R2
  have C := bookOf_any ep us a n c M _ hm (hf.below B) hw
  clear hf hw A1 A2
  go_enter Try.func10, Try.ntmps10
  go_upto_region 1 with fail
  generalize ((w.alloc (.cells #[.int .i64 ep, .int .i64 us, .slice a n c] 26)).alloc (.cells #[.int .i64 0, .int .i64 0, .slice none 0 0] 26)).alloc (.cells #[.int .i64 0, .int .i64 0, .int .i64 0, .int .i64 0] 34) = wa at *
  have hJ1 : w.heap.size + 1 + 1 < wa.heap.size := R2.1.1
  obtain ⟨n9, n0, n1, n2⟩ := id N
  go_wp2_with fail
  refine C.mono ?_
  rintro e wb ⟨V, rfl, hV0, hV1, hb⟩
  clear n9 n0 n1 n2 N
  replace R := R.below hb
  replace R2 := R2.below hb
  replace B := B.trans (hb.mono B.size)
  clear C
  have hV := hV0 ht
  subst hV
  rw [ht]
  clear hV0 hV1 ht hb
  unfold zbk
  have A2 := Below.nw wb (.cells #[.int .i64 0, .int .i64 0, .map none] 50)
  replace R := R.below A2
  replace R2 := R2.below A2
  replace B := B.trans (A2.mono B.size)
  clear A2
  go_upto_region 2 with fail
  generalize wb.alloc (.cells #[.int .i64 0, .int .i64 0, .map none] 50) = wz at *
  have P1 := put3_butK wz (w.heap.size + 1) (.int .i64 0) (.int .i64 0) (.slice none 0 0)
  have RQ := R.set (.int .i64 0) (.int .i64 0) (.slice none 0 0)
  have P2 := put4_but (((wz.setCell ⟨w.heap.size + 1, 0, none⟩ (.int .i64 0)).setCell ⟨w.heap.size + 1, 1, none⟩ (.int .i64 0)).setCell ⟨w.heap.size + 1, 2, none⟩ (.slice none 0 0)) (w.heap.size + 1 + 1) 0 0 0 0
  have RQ2 := (R2.but P1 (by omega)).set 0 0 0 0
  replace RQ := RQ.but P2 (by omega)
  have BQ1 := B.trans (P1.below (B := w.heap.size) (by omega) B.size)
  have BQ := BQ1.trans (P2.below (B := w.heap.size) (by omega) BQ1.size)
  have OQ := World.ownsRow_nil (put4 (((wz.setCell ⟨w.heap.size + 1, 0, none⟩ (.int .i64 0)).setCell ⟨w.heap.size + 1, 1, none⟩ (.int .i64 0)).setCell ⟨w.heap.size + 1, 2, none⟩ (.slice none 0 0)) (w.heap.size + 1 + 1) 0 0 0 0) w.heap.size 34 4
  have KZ : Hid (World.ownsRow _ _ _ _ _ _ _ ∧ Below _ _ _) := ⟨OQ, BQ⟩
  obtain ⟨r0, r1, r2, r3, r4, r5, r6⟩ := R
  obtain ⟨⟨f0, f1, f2, f3, f4⟩, f5, f6, f7, f8⟩ := R2
  clear P1 P2 BQ1 BQ OQ
  unfold put4 at RQ RQ2 KZ
  go_wp2_with fail
  clear r0 r1 r2 r3 r4 r5 r6 f0 f1 f2 f3 f4 f5 f6 f7 f8
  generalize (((((((wz.setCell ⟨w.heap.size + 1, 0, none⟩ (.int .i64 0)).setCell ⟨w.heap.size + 1, 1, none⟩ (.int .i64 0)).setCell ⟨w.heap.size + 1, 2, none⟩ (.slice none 0 0)).setCell ⟨w.heap.size + 1 + 1, 0, none⟩ (.int .i64 0)).setCell ⟨w.heap.size + 1 + 1, 1, none⟩ (.int .i64 0)).setCell ⟨w.heap.size + 1 + 1, 2, none⟩ (.int .i64 0)).setCell ⟨w.heap.size + 1 + 1, 3, none⟩ (.int .i64 0)) = wq at *
  obtain ⟨q0, q1, q2, q3, -, -, -⟩ := RQ
  obtain ⟨⟨g0, g1, g2, g3, g4⟩, -, -, -, -⟩ := RQ2
  exact bodyPost_ret (v := .tuple #[.agg #[.int .i64 0, .int .i64 0, .slice none 0 0], .agg #[.int .i64 0, .int .i64 0, .int .i64 0, .int .i64 0], .int .i64 1]) (by simp (maxDischargeDepth := 6) [results, Try.results10, go_sem, q1, q2, q3, g1, g2, g3, g4]) rfl ⟨_, _, rfl, KZ.out.1, KZ.out.2⟩
set_option maxHeartbeats 8000000 in
theorem implUse_none (ep us : Int) (a : Option Addr) (n c : Nat) (M : Nat → KT) (x y : Int) (w : World) (hm : n ≤ maxLen) (hf : SrcC w a (n * 4) (MFAsk M)) (hw : ∀ i, i < n → (Lit.int .i64 (M i).1).wf = true) (hwx : (Lit.int .i64 x).wf = true) (ht : tabB ep us M n = true) (HLK : Hid (lkK M n x = none)) :
    Calls Try.prog 10 #[.agg #[.int .i64 ep, .int .i64 us, .slice a n c], .int .i64 x, .int .i64 y] w fun e w' => ∃ a' c', e = .returned (.tuple #[.agg #[.int .i64 ep, .int .i64 us, .slice a' n c'], .agg #[.int .i64 0, .int .i64 0, .int .i64 0, .int .i64 0], .int .i64 4]) ∧ w'.ownsRow w.heap.size 34 4 (.slice a' n c') n (krow M n) ∧ Below w.heap.size w w' := by
  have N := ((IB3.new w ep us a n c 26).below (Below.nw _ (.cells #[.int .i64 0, .int .i64 0, .slice none 0 0] 26))).below (Below.nw _ (.cells #[.int .i64 0, .int .i64 0, .int .i64 0, .int .i64 0] 34))
  have R := (Bx3.new (w.alloc (.cells #[.int .i64 ep, .int .i64 us, .slice a n c] 26)) (.int .i64 0) (.int .i64 0) (.slice none 0 0) 26).below (Below.nw _ (.cells #[.int .i64 0, .int .i64 0, .int .i64 0, .int .i64 0] 34))
  have R2 := Bf4.new ((w.alloc (.cells #[.int .i64 ep, .int .i64 us, .slice a n c] 26)).alloc (.cells #[.int .i64 0, .int .i64 0, .slice none 0 0] 26)) 0 0 0 0 34
  have A1 := Below.nw w (.cells #[.int .i64 ep, .int .i64 us, .slice a n c] 26)
  have A2 := A1.alloc A1.size (.cells #[.int .i64 0, .int .i64 0, .slice none 0 0] 26)
  have B := A2.alloc A2.size (.cells #[.int .i64 0, .int .i64 0, .int .i64 0, .int .i64 0] 34)
  simp only [World.size_alloc] at R R2
  have C := bookOf_any ep us a n c M _ hm (hf.below B) hw
  clear hf hw A1 A2
  go_enter Try.func10, Try.ntmps10
  go_upto_region 1 with fail
  generalize ((w.alloc (.cells #[.int .i64 ep, .int .i64 us, .slice a n c] 26)).alloc (.cells #[.int .i64 0, .int .i64 0, .slice none 0 0] 26)).alloc (.cells #[.int .i64 0, .int .i64 0, .int .i64 0, .int .i64 0] 34) = wa at *
  have hJ1 : w.heap.size + 1 + 1 < wa.heap.size := R2.1.1
  obtain ⟨n9, n0, n1, n2⟩ := id N
  go_wp2_with fail
  refine C.mono ?_
  rintro e wb ⟨V, rfl, hV0, hV1, hb⟩
  clear n9 n0 n1 n2 N
  replace R := R.below hb
  replace R2 := R2.below hb
  replace B := B.trans (hb.mono B.size)
  clear C
  obtain ⟨bm, rfl, hbm, MP⟩ := hV1 ht
  rw [ht]
  have hok := tabB_tOk ht
  have hn16 := tabB_len' ht
  have HFA : Hid (FA (lkK M n) M n) := FA.lk (tOk_asc hok)
  clear hV0 hV1 hok
  have A2 := Below.nw wb (.cells #[.int .i64 ep, .int .i64 us, .map (some bm)] 50)
  have X := Bx3.new wb (.int .i64 ep) (.int .i64 us) (.map (some bm)) 50
  have hmb : bm < wb.heap.size := MP.lt
  have hab := hb.size
  replace R := R.below A2
  replace R2 := R2.below A2
  replace MP := MP.below A2
  replace B := B.trans (A2.mono B.size)
  have hzs := A2.size
  clear A2 hb ht
  go_upto_region 2 with fail
  generalize hbx : wb.heap.size = bx at *
  generalize wb.alloc (.cells #[.int .i64 ep, .int .i64 us, .map (some bm)] 50) = wz at *
  have hlook := MP.look_ok hwx
  rw [HLK.out] at hlook
  simp only [Option.getD, Option.isSome, kv, zK] at hlook
  obtain ⟨x0, x1, x2, x3, -, -, -⟩ := id X
  go_upto_region 5 with fail
  clear x0 x1 x2 x3
  clear hlook
  have A3 := Below.nw wz (.cells #[.int .i64 0, .int .i64 0, .int .i64 0, .int .i64 0] 34)
  have Kx := Bf4.new wz 0 0 0 0 34
  have hzz := X.1
  replace R := R.below A3
  replace R2 := R2.below A3
  replace MP := MP.below A3
  replace X := X.below A3
  replace B := B.trans (A3.mono B.size)
  have hs3 := A3.size
  clear A3
  generalize hbk : wz.heap.size = bk at *
  generalize wz.alloc (.cells #[.int .i64 0, .int .i64 0, .int .i64 0, .int .i64 0] 34) = w3 at *
  go_wp2_with fail
  refine (table_any bx bm n n ep us _ M _ X MP (by omega) HFA.out).mono ?_
  rintro e w6 ⟨a', c', rfl, OW, hb6⟩
  replace R := R.below hb6
  replace R2 := R2.below hb6
  have hw5 : w.heap.size + 1 + 1 < w3.heap.size := by omega
  have hw56 : w.heap.size ≤ w3.heap.size := by omega
  replace B := B.trans (hb6.mono B.size)
  clear hb6 X MP Kx
  have P1 := put3_butK w6 (w.heap.size + 1) (.int .i64 ep) (.int .i64 us) (.slice a' n c')
  have RQ := R.set (.int .i64 ep) (.int .i64 us) (.slice a' n c')
  have P2 := put4_but (((w6.setCell ⟨w.heap.size + 1, 0, none⟩ (.int .i64 ep)).setCell ⟨w.heap.size + 1, 1, none⟩ (.int .i64 us)).setCell ⟨w.heap.size + 1, 2, none⟩ (.slice a' n c')) (w.heap.size + 1 + 1) 0 0 0 0
  have RQ2 := (R2.but P1 (by omega)).set 0 0 0 0
  replace RQ := RQ.but P2 (by omega)
  have BQ1 := B.trans (P1.below (B := w.heap.size) (by omega) B.size)
  have BQ := BQ1.trans (P2.below (B := w.heap.size) (by omega) BQ1.size)
  have OQ := ownK_le (base' := w.heap.size) (own_butK (own_butK OW P1 (by omega)) P2 (by omega)) hw56
  have KZ : Hid (World.ownsRow _ _ _ _ _ _ _ ∧ Below _ _ _) := ⟨OQ, BQ⟩
  obtain ⟨r0, r1, r2, r3, r4, r5, r6⟩ := R
  obtain ⟨⟨f0, f1, f2, f3, f4⟩, f5, f6, f7, f8⟩ := R2
  clear P1 P2 BQ1 BQ OQ
  unfold put4 at RQ RQ2 KZ
  go_wp2_with fail
  clear r0 r1 r2 r3 r4 r5 r6 f0 f1 f2 f3 f4 f5 f6 f7 f8
  generalize (((((((w6.setCell ⟨w.heap.size + 1, 0, none⟩ (.int .i64 ep)).setCell ⟨w.heap.size + 1, 1, none⟩ (.int .i64 us)).setCell ⟨w.heap.size + 1, 2, none⟩ (.slice a' n c')).setCell ⟨w.heap.size + 1 + 1, 0, none⟩ (.int .i64 0)).setCell ⟨w.heap.size + 1 + 1, 1, none⟩ (.int .i64 0)).setCell ⟨w.heap.size + 1 + 1, 2, none⟩ (.int .i64 0)).setCell ⟨w.heap.size + 1 + 1, 3, none⟩ (.int .i64 0)) = wq at *
  obtain ⟨q0, q1, q2, q3, -, -, -⟩ := RQ
  obtain ⟨⟨g0, g1, g2, g3, g4⟩, -, -, -, -⟩ := RQ2
  exact bodyPost_ret (v := .tuple #[.agg #[.int .i64 ep, .int .i64 us, .slice a' n c'], .agg #[.int .i64 0, .int .i64 0, .int .i64 0, .int .i64 0], .int .i64 4]) (by simp (maxDischargeDepth := 6) [results, Try.results10, go_sem, q1, q2, q3, g1, g2, g3, g4]) rfl ⟨_, _, rfl, KZ.out.1, KZ.out.2⟩
set_option maxHeartbeats 8000000 in
theorem implUse_other (ep us : Int) (a : Option Addr) (n c : Nat) (M : Nat → KT) (x y : Int) (w : World) (hm : n ≤ maxLen) (hf : SrcC w a (n * 4) (MFAsk M)) (hw : ∀ i, i < n → (Lit.int .i64 (M i).1).wf = true) (hwx : (Lit.int .i64 x).wf = true) (ht : tabB ep us M n = true) (z0 z1 z2 z3 : Int) (HLK : Hid (lkK M n x = some (kT z0 z1 z2 z3))) (hzy : (z1 != y) = true) :
    Calls Try.prog 10 #[.agg #[.int .i64 ep, .int .i64 us, .slice a n c], .int .i64 x, .int .i64 y] w fun e w' => ∃ a' c', e = .returned (.tuple #[.agg #[.int .i64 ep, .int .i64 us, .slice a' n c'], .agg #[.int .i64 0, .int .i64 0, .int .i64 0, .int .i64 0], .int .i64 5]) ∧ w'.ownsRow w.heap.size 34 4 (.slice a' n c') n (krow M n) ∧ Below w.heap.size w w' := by
  have N := ((IB3.new w ep us a n c 26).below (Below.nw _ (.cells #[.int .i64 0, .int .i64 0, .slice none 0 0] 26))).below (Below.nw _ (.cells #[.int .i64 0, .int .i64 0, .int .i64 0, .int .i64 0] 34))
  have R := (Bx3.new (w.alloc (.cells #[.int .i64 ep, .int .i64 us, .slice a n c] 26)) (.int .i64 0) (.int .i64 0) (.slice none 0 0) 26).below (Below.nw _ (.cells #[.int .i64 0, .int .i64 0, .int .i64 0, .int .i64 0] 34))
  have R2 := Bf4.new ((w.alloc (.cells #[.int .i64 ep, .int .i64 us, .slice a n c] 26)).alloc (.cells #[.int .i64 0, .int .i64 0, .slice none 0 0] 26)) 0 0 0 0 34
  have A1 := Below.nw w (.cells #[.int .i64 ep, .int .i64 us, .slice a n c] 26)
  have A2 := A1.alloc A1.size (.cells #[.int .i64 0, .int .i64 0, .slice none 0 0] 26)
  have B := A2.alloc A2.size (.cells #[.int .i64 0, .int .i64 0, .int .i64 0, .int .i64 0] 34)
  simp only [World.size_alloc] at R R2
  have C := bookOf_any ep us a n c M _ hm (hf.below B) hw
  clear hf hw A1 A2
  go_enter Try.func10, Try.ntmps10
  go_upto_region 1 with fail
  generalize ((w.alloc (.cells #[.int .i64 ep, .int .i64 us, .slice a n c] 26)).alloc (.cells #[.int .i64 0, .int .i64 0, .slice none 0 0] 26)).alloc (.cells #[.int .i64 0, .int .i64 0, .int .i64 0, .int .i64 0] 34) = wa at *
  have hJ1 : w.heap.size + 1 + 1 < wa.heap.size := R2.1.1
  obtain ⟨n9, n0, n1, n2⟩ := id N
  go_wp2_with fail
  refine C.mono ?_
  rintro e wb ⟨V, rfl, hV0, hV1, hb⟩
  clear n9 n0 n1 n2 N
  replace R := R.below hb
  replace R2 := R2.below hb
  replace B := B.trans (hb.mono B.size)
  clear C
  obtain ⟨bm, rfl, hbm, MP⟩ := hV1 ht
  rw [ht]
  have hok := tabB_tOk ht
  have hn16 := tabB_len' ht
  have HFA : Hid (FA (lkK M n) M n) := FA.lk (tOk_asc hok)
  clear hV0 hV1 hok
  have A2 := Below.nw wb (.cells #[.int .i64 ep, .int .i64 us, .map (some bm)] 50)
  have X := Bx3.new wb (.int .i64 ep) (.int .i64 us) (.map (some bm)) 50
  have hmb : bm < wb.heap.size := MP.lt
  have hab := hb.size
  replace R := R.below A2
  replace R2 := R2.below A2
  replace MP := MP.below A2
  replace B := B.trans (A2.mono B.size)
  have hzs := A2.size
  clear A2 hb ht
  go_upto_region 2 with fail
  generalize hbx : wb.heap.size = bx at *
  generalize wb.alloc (.cells #[.int .i64 ep, .int .i64 us, .map (some bm)] 50) = wz at *
  have hlook := MP.look_ok hwx
  rw [HLK.out] at hlook
  simp only [Option.getD, Option.isSome, kv, kT] at hlook
  obtain ⟨x0, x1, x2, x3, -, -, -⟩ := id X
  go_upto_region 5 with fail
  clear x0 x1 x2 x3
  clear hlook
  have A3 := Below.nw wz (.cells #[.int .i64 z0, .int .i64 z1, .int .i64 z2, .int .i64 z3] 34)
  have Kx := Bf4.new wz z0 z1 z2 z3 34
  have hzz := X.1
  replace R := R.below A3
  replace R2 := R2.below A3
  replace MP := MP.below A3
  replace X := X.below A3
  replace B := B.trans (A3.mono B.size)
  have hs3 := A3.size
  clear A3
  generalize hbk : wz.heap.size = bk at *
  generalize wz.alloc (.cells #[.int .i64 z0, .int .i64 z1, .int .i64 z2, .int .i64 z3] 34) = w3 at *
  obtain ⟨⟨k0, k1, k2, k3, k4⟩, -, -, -, -⟩ := id Kx
  go_wp2_with fail
  clear k0 k1 k2 k3 k4
  refine (table_any bx bm n n ep us _ M _ X MP (by omega) HFA.out).mono ?_
  rintro e w6 ⟨a', c', rfl, OW, hb6⟩
  replace R := R.below hb6
  replace R2 := R2.below hb6
  have hw5 : w.heap.size + 1 + 1 < w3.heap.size := by omega
  have hw56 : w.heap.size ≤ w3.heap.size := by omega
  replace B := B.trans (hb6.mono B.size)
  clear hb6 X MP Kx
  have P1 := put3_butK w6 (w.heap.size + 1) (.int .i64 ep) (.int .i64 us) (.slice a' n c')
  have RQ := R.set (.int .i64 ep) (.int .i64 us) (.slice a' n c')
  have P2 := put4_but (((w6.setCell ⟨w.heap.size + 1, 0, none⟩ (.int .i64 ep)).setCell ⟨w.heap.size + 1, 1, none⟩ (.int .i64 us)).setCell ⟨w.heap.size + 1, 2, none⟩ (.slice a' n c')) (w.heap.size + 1 + 1) 0 0 0 0
  have RQ2 := (R2.but P1 (by omega)).set 0 0 0 0
  replace RQ := RQ.but P2 (by omega)
  have BQ1 := B.trans (P1.below (B := w.heap.size) (by omega) B.size)
  have BQ := BQ1.trans (P2.below (B := w.heap.size) (by omega) BQ1.size)
  have OQ := ownK_le (base' := w.heap.size) (own_butK (own_butK OW P1 (by omega)) P2 (by omega)) hw56
  have KZ : Hid (World.ownsRow _ _ _ _ _ _ _ ∧ Below _ _ _) := ⟨OQ, BQ⟩
  obtain ⟨r0, r1, r2, r3, r4, r5, r6⟩ := R
  obtain ⟨⟨f0, f1, f2, f3, f4⟩, f5, f6, f7, f8⟩ := R2
  clear P1 P2 BQ1 BQ OQ
  unfold put4 at RQ RQ2 KZ
  go_wp2_with fail
  clear r0 r1 r2 r3 r4 r5 r6 f0 f1 f2 f3 f4 f5 f6 f7 f8
  generalize (((((((w6.setCell ⟨w.heap.size + 1, 0, none⟩ (.int .i64 ep)).setCell ⟨w.heap.size + 1, 1, none⟩ (.int .i64 us)).setCell ⟨w.heap.size + 1, 2, none⟩ (.slice a' n c')).setCell ⟨w.heap.size + 1 + 1, 0, none⟩ (.int .i64 0)).setCell ⟨w.heap.size + 1 + 1, 1, none⟩ (.int .i64 0)).setCell ⟨w.heap.size + 1 + 1, 2, none⟩ (.int .i64 0)).setCell ⟨w.heap.size + 1 + 1, 3, none⟩ (.int .i64 0)) = wq at *
  obtain ⟨q0, q1, q2, q3, -, -, -⟩ := RQ
  obtain ⟨⟨g0, g1, g2, g3, g4⟩, -, -, -, -⟩ := RQ2
  exact bodyPost_ret (v := .tuple #[.agg #[.int .i64 ep, .int .i64 us, .slice a' n c'], .agg #[.int .i64 0, .int .i64 0, .int .i64 0, .int .i64 0], .int .i64 5]) (by simp (maxDischargeDepth := 6) [results, Try.results10, go_sem, q1, q2, q3, g1, g2, g3, g4]) rfl ⟨_, _, rfl, KZ.out.1, KZ.out.2⟩
set_option maxRecDepth 100000 in
set_option maxHeartbeats 8000000 in
theorem implUse_done (ep us : Int) (a : Option Addr) (n c : Nat) (M : Nat → KT) (x : Int) (w : World) (hm : n ≤ maxLen) (hf : SrcC w a (n * 4) (MFAsk M)) (hw : ∀ i, i < n → (Lit.int .i64 (M i).1).wf = true) (hwx : (Lit.int .i64 x).wf = true) (ht : tabB ep us M n = true) (z0 z1 z2 z3 : Int) (i : Nat) (hin : i < n) (hMi : Hid (M i = kT z0 z1 z2 z3)) (hx : Hid (z0 = x)) :
    Calls Try.prog 10 #[.agg #[.int .i64 ep, .int .i64 us, .slice a n c], .int .i64 x, .int .i64 z1] w fun e w' => ∃ a' c', e = .returned (.tuple #[.agg #[.int .i64 ep, .int .i64 us, .slice a' (n - 1) c'], .agg #[.int .i64 z0, .int .i64 z1, .int .i64 z2, .int .i64 z3], .int .i64 0]) ∧ w'.ownsRow w.heap.size 34 4 (.slice a' (n - 1) c') (n - 1) (krow (cutK M i) (n - 1)) ∧ Below w.heap.size w w' := by
  have HM1 : Hid ((M i).1 = x) := by rw [Hid, hMi.out]; exact hx.out
  have HLK : Hid (lkK M n x = some (kT z0 z1 z2 z3)) := by
    have := lkK_at (tOk_asc (tabB_tOk ht)) hin
    rw [HM1.out, hMi.out] at this
    exact this
  clear hx hMi
  have N := ((IB3.new w ep us a n c 26).below (Below.nw _ (.cells #[.int .i64 0, .int .i64 0, .slice none 0 0] 26))).below (Below.nw _ (.cells #[.int .i64 0, .int .i64 0, .int .i64 0, .int .i64 0] 34))
  have R := (Bx3.new (w.alloc (.cells #[.int .i64 ep, .int .i64 us, .slice a n c] 26)) (.int .i64 0) (.int .i64 0) (.slice none 0 0) 26).below (Below.nw _ (.cells #[.int .i64 0, .int .i64 0, .int .i64 0, .int .i64 0] 34))
  have R2 := Bf4.new ((w.alloc (.cells #[.int .i64 ep, .int .i64 us, .slice a n c] 26)).alloc (.cells #[.int .i64 0, .int .i64 0, .slice none 0 0] 26)) 0 0 0 0 34
  have A1 := Below.nw w (.cells #[.int .i64 ep, .int .i64 us, .slice a n c] 26)
  have A2 := A1.alloc A1.size (.cells #[.int .i64 0, .int .i64 0, .slice none 0 0] 26)
  have B := A2.alloc A2.size (.cells #[.int .i64 0, .int .i64 0, .int .i64 0, .int .i64 0] 34)
  simp only [World.size_alloc] at R R2
  have C := bookOf_any ep us a n c M _ hm (hf.below B) hw
  clear hf hw A1 A2
  go_enter Try.func10, Try.ntmps10
  go_upto_region 1 with fail
  generalize ((w.alloc (.cells #[.int .i64 ep, .int .i64 us, .slice a n c] 26)).alloc (.cells #[.int .i64 0, .int .i64 0, .slice none 0 0] 26)).alloc (.cells #[.int .i64 0, .int .i64 0, .int .i64 0, .int .i64 0] 34) = wa at *
  have hJ1 : w.heap.size + 1 + 1 < wa.heap.size := R2.1.1
  obtain ⟨n9, n0, n1, n2⟩ := id N
  go_wp2_with fail
  refine C.mono ?_
  rintro e wb ⟨V, rfl, hV0, hV1, hb⟩
  clear n9 n0 n1 n2 N
  replace R := R.below hb
  replace R2 := R2.below hb
  replace B := B.trans (hb.mono B.size)
  clear C
  obtain ⟨bm, rfl, hbm, MP⟩ := hV1 ht
  rw [ht]
  have hok := tabB_tOk ht
  have hn16 := tabB_len' ht
  have HFA : Hid (FA (lkK M n) M n) := FA.lk (tOk_asc hok)
  clear hV0 hV1 hok
  have A2 := Below.nw wb (.cells #[.int .i64 ep, .int .i64 us, .map (some bm)] 50)
  have X := Bx3.new wb (.int .i64 ep) (.int .i64 us) (.map (some bm)) 50
  have hmb : bm < wb.heap.size := MP.lt
  have hab := hb.size
  replace R := R.below A2
  replace R2 := R2.below A2
  replace MP := MP.below A2
  replace B := B.trans (A2.mono B.size)
  have hzs := A2.size
  clear A2 hb ht
  go_upto_region 2 with fail
  generalize hbx : wb.heap.size = bx at *
  generalize wb.alloc (.cells #[.int .i64 ep, .int .i64 us, .map (some bm)] 50) = wz at *
  have hlook := MP.look_ok hwx
  rw [HLK.out] at hlook
  simp only [Option.getD, Option.isSome, kv, kT] at hlook
  obtain ⟨x0, x1, x2, x3, -, -, -⟩ := id X
  go_upto_region 5 with fail
  clear x0 x1 x2 x3
  clear hlook
  have A3 := Below.nw wz (.cells #[.int .i64 z0, .int .i64 z1, .int .i64 z2, .int .i64 z3] 34)
  have Kx := Bf4.new wz z0 z1 z2 z3 34
  have hzz := X.1
  replace R := R.below A3
  replace R2 := R2.below A3
  replace MP := MP.below A3
  replace X := X.below A3
  replace B := B.trans (A3.mono B.size)
  have hs3 := A3.size
  clear A3
  generalize hbk : wz.heap.size = bk at *
  generalize wz.alloc (.cells #[.int .i64 z0, .int .i64 z1, .int .i64 z2, .int .i64 z3] 34) = w3 at *
  have HFC : Hid (FA (fun q => if q = x then none else lkK M n q) (cutK M i) (n - 1)) := HFA.out.cut hin HM1.out
  obtain ⟨⟨k0, k1, k2, k3, k4⟩, -, -, -, -⟩ := id Kx
  go_wp2_with fail
  clear k0 k1 k2 k3 k4
  refine (take_any bx bm n wa.heap.size bk ep us x z0 z1 z2 z3 _ _ X MP hwx (by rw [HLK.out]; rfl) (by omega) (by omega) (by omega) z0 z1 z2 z3 Kx (by omega)).mono ?_
  rintro e w5 ⟨rfl, X5, MP5, KXP, hb5⟩
  have hR5 := hJ1
  replace R : Bx3 w5 (w.heap.size + 1) (.int .i64 0) (.int .i64 0) (.slice none 0 0) := by
    obtain ⟨h0, c0, c1, c2, f0, f1, f2⟩ := R
    have hJ0 : w.heap.size + 1 < wa.heap.size := by omega
    exact ⟨Nat.lt_of_lt_of_le h0 hb5.size, by rw [hb5.cell (p := ⟨w.heap.size + 1, 0, none⟩) hJ0]; exact c0, by rw [hb5.cell (p := ⟨w.heap.size + 1, 1, none⟩) hJ0]; exact c1, by rw [hb5.cell (p := ⟨w.heap.size + 1, 2, none⟩) hJ0]; exact c2, by rw [hb5.frozen (p := ⟨w.heap.size + 1, 0, none⟩) hJ0]; exact f0, by rw [hb5.frozen (p := ⟨w.heap.size + 1, 1, none⟩) hJ0]; exact f1, by rw [hb5.frozen (p := ⟨w.heap.size + 1, 2, none⟩) hJ0]; exact f2⟩
  replace R2 : Bf4 w5 (w.heap.size + 1 + 1) 0 0 0 0 := R2.bel hb5 hJ1
  replace Kx : Bf4 w5 bk z0 z1 z2 z3 := KXP
  replace B := B.trans (hb5.mono (by omega))
  have hs5 := hb5.size
  clear hb5 X MP
  have hd1 : ¬ bk = w.heap.size + 1 := by omega
  have hd2 : ¬ bk = w.heap.size + 1 + 1 := by omega
  go_upto_region 10 with fail
  obtain ⟨⟨k0, k1, k2, k3, k4⟩, -, -, -, -⟩ := id Kx
  refine wp_region_held_drew (S := (fun w' => w'.cell? ⟨bk, 0, none⟩ = some (.int .i64 z0) ∧ w'.cell? ⟨bk, 1, none⟩ = some (.int .i64 z1) ∧ w'.cell? ⟨bk, 2, none⟩ = some (.int .i64 z2) ∧ w'.cell? ⟨bk, 3, none⟩ = some (.int .i64 z3))) (by kernel_rfl) ?_ (fun hHeld => ?_)
  · first | (simp only [cellO hd2]; simp only [cellO hd1]; exact ⟨k1, k2, k3, k4⟩) | (simp only [cellO hd1]; exact ⟨k1, k2, k3, k4⟩) | exact ⟨k1, k2, k3, k4⟩
  clear k0 k1 k2 k3 k4
  replace X5 := X5.drew
  replace MP5 := MP5.drew
  replace R := R.drew
  replace R2 := R2.drew
  replace Kx := Kx.drew
  replace B := Below.drew B
  replace hs5 : w3.heap.size ≤ w5.drew.heap.size := hs5
  generalize w5.drew = w8 at *
  (obtain ⟨⟨k0, k1, k2, k3, k4⟩, -, -, -, -⟩ := id Kx)
  refine wpAnyH_take (i := 1) (v := ?_) (by rw [List.getElem?_toArray]; rfl) (by kernel_rfl) (by kernel_rfl) (by kernel_rfl) (by intro _ _ _ h; exact h) (Or.inl ⟨by rfl, ?_⟩) (by assumption) ?_
  rotate_left
  · (intro w hSw; (try dsimp only at hSw); go_simp; all_goals with_reducible rfl)
  (try simp only [Act.put, List.setIfInBounds_toArray, List.set_cons_zero, List.set_cons_succ])
  refine wpAnyH_ready (rs := [0]) (by kernel_rfl) (by simp) ?_
  refine (AllReadyH.cons (by rw [List.getElem?_toArray]; rfl) (fun K hK => ?_) AllReadyH.nil)
  go_simp
  refine (table_any bx bm n (n - 1) ep us _ (cutK M i) _ X5 MP5 (by omega) HFC.out).mono ?_; rintro e w9 ⟨a', c', rfl, OW, hb⟩; (have hw56 : w.heap.size ≤ w8.heap.size := B.size); (have hw57 : w.heap.size + 1 + 1 < w8.heap.size := R2.1.1); (have hkb : bk < w8.heap.size := Kx.1.1); (replace R := R.below hb); (replace R2 := R2.below hb); clear k0 k1 k2 k3 k4; (replace Kx := Kx.below hb); (replace B := B.trans (hb.mono B.size)); clear hb X5 MP5; (obtain ⟨⟨k0, k1, k2, k3, k4⟩, -, -, -, -⟩ := id Kx); (obtain ⟨r0, r1, r2, r3, r4, r5, r6⟩ := id R); (obtain ⟨⟨f0, f1, f2, f3, f4⟩, f5, f6, f7, f8⟩ := id R2)
  (try go_wp2_with fail)
  refine hK.out _ _ ?_ (fun hHeld => ?_)
  · first | (simp only [cellO hd2]; simp only [cellO hd1]; exact ⟨k1, k2, k3, k4⟩) | (simp only [cellO hd1]; exact ⟨k1, k2, k3, k4⟩) | exact ⟨k1, k2, k3, k4⟩
  clear hK K
  (try simp only [Act.put, List.setIfInBounds_toArray, List.set_cons_zero, List.set_cons_succ])
  refine wpAnyH_ready (rs := [2]) (by kernel_rfl) (by simp) ?_
  refine (AllReadyH.cons (by rw [List.getElem?_toArray]; rfl) (fun K hK => ?_) AllReadyH.nil)
  go_simp
  refine hK.out _ _ ?_ (fun hHeld => ?_)
  · first | (simp only [cellO hd2]; simp only [cellO hd1]; exact ⟨k1, k2, k3, k4⟩) | (simp only [cellO hd1]; exact ⟨k1, k2, k3, k4⟩) | exact ⟨k1, k2, k3, k4⟩
  clear hK K
  (try simp only [Act.put, List.setIfInBounds_toArray, List.set_cons_zero, List.set_cons_succ])
  refine wpAnyH_ready (rs := [3]) (by kernel_rfl) (by simp) ?_
  refine (AllReadyH.cons (by rw [List.getElem?_toArray]; rfl) (fun K hK => ?_) AllReadyH.nil)
  go_simp
  refine hK.out _ _ ?_ (fun hHeld => ?_)
  · first | (simp only [cellO hd2]; simp only [cellO hd1]; exact ⟨k1, k2, k3, k4⟩) | (simp only [cellO hd1]; exact ⟨k1, k2, k3, k4⟩) | exact ⟨k1, k2, k3, k4⟩
  clear hK K
  (try simp only [Act.put, List.setIfInBounds_toArray, List.set_cons_zero, List.set_cons_succ])
  refine wpAnyH_take (i := 4) (v := ?_) (by rw [List.getElem?_toArray]; rfl) (by kernel_rfl) (by kernel_rfl) (by kernel_rfl) (by intro _ _ _ h; exact h) (Or.inl ⟨by rfl, ?_⟩) (by assumption) ?_
  rotate_left
  · (intro w hSw; (try dsimp only at hSw); go_simp; all_goals with_reducible rfl)
  (try simp only [Act.put, List.setIfInBounds_toArray, List.set_cons_zero, List.set_cons_succ])
  refine wpAnyH_done (by kernel_rfl) ?_ _
  clear r0 r1 r2 r3 r4 r5 r6 f0 f1 f2 f3 f4 f5 f6 f7 f8 k0 k1 k2 k3 k4
  have P1 := put3_butK w9 (w.heap.size + 1) (.int .i64 ep) (.int .i64 us) (.slice a' (n - 1) c')
  have RQ := R.set (.int .i64 ep) (.int .i64 us) (.slice a' (n - 1) c')
  have P2 := put4_but (((w9.setCell ⟨w.heap.size + 1, 0, none⟩ (.int .i64 ep)).setCell ⟨w.heap.size + 1, 1, none⟩ (.int .i64 us)).setCell ⟨w.heap.size + 1, 2, none⟩ (.slice a' (n - 1) c')) (w.heap.size + 1 + 1) z0 z1 z2 z3
  have RQ2 := (R2.but P1 (by omega)).set z0 z1 z2 z3
  replace RQ := RQ.but P2 (by omega)
  have BQ1 := B.trans (P1.below (B := w.heap.size) (by omega) B.size)
  have BQ := BQ1.trans (P2.below (B := w.heap.size) (by omega) BQ1.size)
  have OQ := ownK_le (base' := w.heap.size) (own_butK (own_butK OW P1 (by omega)) P2 (by omega)) hw56
  have KZ : Hid (World.ownsRow _ _ _ _ _ _ _ ∧ Below _ _ _) := ⟨OQ, BQ⟩
  obtain ⟨r0, r1, r2, r3, r4, r5, r6⟩ := R
  obtain ⟨⟨f0, f1, f2, f3, f4⟩, f5, f6, f7, f8⟩ := R2
  clear P1 P2 BQ1 BQ OQ
  unfold put4 at RQ RQ2 KZ
  go_wp2_with fail
  clear r0 r1 r2 r3 r4 r5 r6 f0 f1 f2 f3 f4 f5 f6 f7 f8
  generalize (((((((w9.setCell ⟨w.heap.size + 1, 0, none⟩ (.int .i64 ep)).setCell ⟨w.heap.size + 1, 1, none⟩ (.int .i64 us)).setCell ⟨w.heap.size + 1, 2, none⟩ (.slice a' (n - 1) c')).setCell ⟨w.heap.size + 1 + 1, 0, none⟩ (.int .i64 z0)).setCell ⟨w.heap.size + 1 + 1, 1, none⟩ (.int .i64 z1)).setCell ⟨w.heap.size + 1 + 1, 2, none⟩ (.int .i64 z2)).setCell ⟨w.heap.size + 1 + 1, 3, none⟩ (.int .i64 z3)) = wq at *
  obtain ⟨q0, q1, q2, q3, -, -, -⟩ := RQ
  obtain ⟨⟨g0, g1, g2, g3, g4⟩, -, -, -, -⟩ := RQ2
  exact bodyPost_ret (v := .tuple #[.agg #[.int .i64 ep, .int .i64 us, .slice a' (n - 1) c'], .agg #[.int .i64 z0, .int .i64 z1, .int .i64 z2, .int .i64 z3], .int .i64 0]) (by simp (maxDischargeDepth := 6) [results, Try.results10, go_sem, q1, q2, q3, g1, g2, g3, g4]) rfl ⟨_, _, rfl, KZ.out.1, KZ.out.2⟩
end Go.Proofs.Ytlaladalnbdhpaa
