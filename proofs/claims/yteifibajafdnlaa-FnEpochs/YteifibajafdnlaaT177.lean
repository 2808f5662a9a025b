/- The program's LifeRun. -/
import Derived.Test.YteifibajafdnlaaT174
import Derived.Test.YteifibajafdnlaaT176
import Derived.Deep.RegionHeld3
import Derived.Deep.DeepCutAuto
import Derived.Deep.DeepAppendRoom
import Derived.WalkKit
import Derived.WalkSpells
import Derived.WalkLawsBesides
import Derived.Deep.RegionHeld
namespace Go.Proofs.Yteifibajafdnlaa
open Go.RowKit
set_option linter.unusedVariables false
theorem info17 : (Try.prog.info? 3).map (fun i => (i.zero, i.size, i.bytes)) = some (some (.int .i64 0), 1, 8) := by kernel_rfl
def rowObj17 (m : Nat) : Obj := .cells (madeCells (Value.int .i64 0).cells (m * 1)) 3
theorem mk_cap17 (m : Nat) (h : m ≤ 200) (w : World) : (Instr.makeSlice 36 (.int .i64 0) (.int .i64 (m : Int))).run Try.prog w = .ok (.slice (some ⟨w.heap.size, 0, none⟩) 0 m) (w.alloc (rowObj17 m)) := by
  obtain ⟨i, hi, hz⟩ := Option.map_eq_some_iff.1 info17
  simp only [Prod.mk.injEq] at hz
  obtain ⟨h1, h2, h3⟩ := hz
  have hr := run_make (P := Try.prog) w 36 3 i _ Try.underlying36 hi h1 .i64 .i64 0 m (by omega) (by omega) (by rw [h3]; omega) (by omega)
  simp only [Int.toNat_natCast, h2] at hr
  exact hr
theorem own_cap17 (m : Nat) (h : m ≤ 200) (w : World) : (w.alloc (rowObj17 m)).ownsRow w.heap.size 3 1 (.slice (some ⟨w.heap.size, 0, none⟩) 0 m) ([] : List Int).length (irow []) := World.ownsRow_made w _ m (Nat.le_refl _) (by unfold maxLen; omega) (size_madeCells _ _)
set_option maxRecDepth 100000 in
set_option maxHeartbeats 16000000 in
theorem implLifeRun_any (m e s : Int) (a : Option Addr) (n c : Nat) (M : Nat → VT) (w : World) (hm : n ≤ maxLen) (hs : SrcC w a (n * 2) (MFIval M)) :
    Calls Try.prog 20 #[.agg #[.int .i64 m, .int .i64 e, .int .i64 s], .slice a n c] w fun x w' => ∃ v, x = .returned (.tuple #[.agg #[.int .i64 (lrA M n m e s).1, .int .i64 (lrA M n m e s).2.1, .int .i64 (lrA M n m e s).2.2], v]) ∧ w'.ownsRow w.heap.size 3 1 v (lrL M n m e s).length (irow (lrL M n m e s)) ∧ Below w.heap.size w w' := by
  have A0 := Below.nw w (.cells #[.int .i64 m, .int .i64 e, .int .i64 s] 25)
  have A1 := Below.nw (w.alloc (.cells #[.int .i64 m, .int .i64 e, .int .i64 s] 25)) (.cells #[.int .i64 0, .int .i64 0, .int .i64 0] 25)
  have N := (Tx3.new w (.int .i64 m) (.int .i64 e) (.int .i64 s) 25).below A1
  have R := Tx3.new (w.alloc (.cells #[.int .i64 m, .int .i64 e, .int .i64 s] 25)) (.int .i64 0) (.int .i64 0) (.int .i64 0) 25
  have B := A0.trans (A1.mono A0.size)
  simp only [World.size_alloc] at R
  clear A0 A1
  have HS : Hid (SrcC w a (n * 2) (MFIval M)) := hs
  clear hs
  unfold maxLen at hm
  by_cases h2 : 200 < (n : Int)
  · rw [show lrA M n m e s = (m, e, s) by unfold lrA; rw [decide_eq_false (by omega)], show lrL M n m e s = [] by unfold lrL; rw [decide_eq_false (by omega)]]
    go_enter Try.func20, Try.ntmps20
    go_upto_region 1 with fail
    generalize (w.alloc (.cells #[.int .i64 m, .int .i64 e, .int .i64 s] 25)).alloc (.cells #[.int .i64 0, .int .i64 0, .int .i64 0] 25) = v at *
    have RR := ((R.set0 (.int .i64 (m))).set1 (.int .i64 (e))).set2 (.int .i64 (s))
    have bz : But (w.heap.size + 1) v _ := (((But.refl (w.heap.size + 1) v).setCell 0 (.int .i64 (m))).setCell 1 (.int .i64 (e))).setCell 2 (.int .i64 (s))
    have BB := B.trans (bz.below (Nat.le_add_right w.heap.size 1) B.size)
    obtain ⟨r0, r1, r2, r3, r4, r5, r6⟩ := id R
    obtain ⟨n0, n1, n2, n3, n4, n5, n6⟩ := id N
    go_wp2_with fail
    clear n0 n1 n2 n3 n4 n5 n6
    clear r0 r1 r2 r3 r4 r5 r6 bz
    generalize ((v.setCell ⟨w.heap.size + 1, 0, none⟩ (.int .i64 (m))).setCell ⟨w.heap.size + 1, 1, none⟩ (.int .i64 (e))).setCell ⟨w.heap.size + 1, 2, none⟩ (.int .i64 (s)) = vz at *
    obtain ⟨r0, r1, r2, r3, r4, r5, r6⟩ := id RR
    exact bodyPost_ret (v := .tuple #[.agg #[.int .i64 m, .int .i64 e, .int .i64 s], .slice none 0 0]) (by simp (maxDischargeDepth := 6) [results, Try.results20, go_sem, r1, r2, r3]) rfl ⟨_, rfl, nil_int _ _, BB⟩
  rw [show lrA M n m e s = lrT M m e s n by unfold lrA; rw [decide_eq_true (by omega)], show lrL M n m e s = lrC M m e s n by unfold lrL; rw [decide_eq_true (by omega)]]
  have hn2 : n ≤ 200 := by omega
  have hjw : w.heap.size + 2 ≤ ((w.alloc (.cells #[.int .i64 m, .int .i64 e, .int .i64 s] 25)).alloc (.cells #[.int .i64 0, .int .i64 0, .int .i64 0] 25)).heap.size := by simp
  have hjv : ((w.alloc (.cells #[.int .i64 m, .int .i64 e, .int .i64 s] 25)).alloc (.cells #[.int .i64 0, .int .i64 0, .int .i64 0] 25)).heap.size = w.heap.size + 2 := by simp
  have HSTEP : Hid (∀ q a1 a2 a3 x0 x1, lrT M m e s q = (a1, a2, a3) → M q = (x0, x1) → lrC M m e s (q + 1) = lrC M m e s q ++ [stC a1 a2 a3 x0 x1] ∧ (stC a1 a2 a3 x0 x1 = 0 → lrT M m e s (q + 1) = (stM a1 a2 a3 x0 x1, stE a1 a2 a3 x0 x1, stS a1 a2 a3 x0 x1)) ∧ (stC a1 a2 a3 x0 x1 ≠ 0 → lrT M m e s (q + 1) = (a1, a2, a3))) := fun q a1 a2 a3 x0 x1 => lr_step M m e s q a1 a2 a3 x0 x1
  have HLEN : Hid (∀ q, (lrC M m e s q).length = q) := lrC_len M m e s
  have HT0 : Hid (lrT M m e s 0 = (m, e, s)) := rfl
  have HC0 : Hid (lrC M m e s 0 = []) := rfl
  generalize lrT M m e s = LT at *
  generalize lrC M m e s = LC at *
  go_enter Try.func20, Try.ntmps20
  go_upto_region 1 with fail
  generalize (w.alloc (.cells #[.int .i64 m, .int .i64 e, .int .i64 s] 25)).alloc (.cells #[.int .i64 0, .int .i64 0, .int .i64 0] 25) = v at *
  have hmk := mk_cap17 n hn2
  have NL := Below.nw v (rowObj17 n)
  have OW := own_cap17 n hn2 v
  go_upto_region 4 with fail
  clear hmk
  replace N := N.below NL
  replace R := R.below NL
  replace B := B.trans (NL.mono B.size)
  have hjs : w.heap.size + 2 ≤ (v.alloc (rowObj17 n)).heap.size := Nat.le_trans hjw NL.size
  clear NL hjw
  rw [hjv] at OW
  generalize v.alloc (rowObj17 n) = v0 at *
  clear hjv
  have HN1 : Hid (Tx3 v0 w.heap.size (.int .i64 m) (.int .i64 e) (.int .i64 s)) := N
  have HR1 : Hid (Tx3 v0 (w.heap.size + 1) (.int .i64 0) (.int .i64 0) (.int .i64 0)) := R
  have HO1 : Hid (v0.ownsRow (w.heap.size + 2) 3 1 (.slice (some ⟨w.heap.size + 2, 0, none⟩) 0 n) (LC 0).length (irow (LC 0))) := by rw [Hid, HC0.out]; exact OW
  have HJ1 : Hid (w.heap.size + 2 ≤ v0.heap.size) := hjs
  have HB1 : Hid (Below w.heap.size w v0) := B
  clear N R OW hjs B
  go_wp2_with fail
  go_loopw [6, 20] (fun s6 i wr => ∃ (q : Nat) (a1 a2 a3 : Int), q ≤ n ∧ i = .int .i64 q ∧ LT q = (a1, a2, a3) ∧ Tx3 wr w.heap.size (.int .i64 a1) (.int .i64 a2) (.int .i64 a3) ∧ Tx3 wr (w.heap.size + 1) (.int .i64 0) (.int .i64 0) (.int .i64 0) ∧ wr.ownsRow (w.heap.size + 2) 3 1 s6 (LC q).length (irow (LC q)) ∧ w.heap.size + 2 ≤ wr.heap.size ∧ Below w.heap.size w wr) (fun _ i _ => n - (intOf i).toNat)
  case atStart => exact ⟨0, m, e, s, Nat.zero_le _, rfl, HT0.out, HN1.out, HR1.out, HO1.out, HJ1.out, HB1.out⟩
  case round =>
    clear HN1 HR1 HO1 HJ1 HB1
    obtain ⟨q, a1, a2, a3, hq, rfl, hT, N, R, OW, hjs, B⟩ := hrel
    by_cases hlt : q < n
    · have hli : (q : Int) < (n : Int) := by omega
      have HQ : Hid (q < n) := hlt
      obtain ⟨x0, x1, hM⟩ := tupIval M q
      obtain ⟨b, off, rfl, hf⟩ : ∃ b off, a = some ⟨b, off, none⟩ ∧ Cs w b off (n * 2) (MFIval M) := by
        rcases HS.out with r | r
        · exact absurd r (by omega)
        · exact r
      have hf' := hf.below B hf.1
      have hbb := hf'.1
      obtain ⟨c0, c1⟩ := hf'.elIval hlt hM
      obtain ⟨st1, st2, st3⟩ := HSTEP.out q a1 a2 a3 x0 x1 hT hM
      have HS1 : Hid (LC (q + 1) = LC q ++ [stC a1 a2 a3 x0 x1]) := st1
      have HS2 : Hid (stC a1 a2 a3 x0 x1 = 0 → LT (q + 1) = (stM a1 a2 a3 x0 x1, stE a1 a2 a3 x0 x1, stS a1 a2 a3 x0 x1)) := st2
      have HS3 : Hid (stC a1 a2 a3 x0 x1 ≠ 0 → LT (q + 1) = (a1, a2, a3)) := st3
      have hlen : (LC q).length ≤ 200 := by rw [HLEN.out]; omega
      have CS := fun w' => implLifeStep_any a1 a2 a3 x0 x1 w'
      generalize stM a1 a2 a3 x0 x1 = AA at *
      generalize stE a1 a2 a3 x0 x1 = EE at *
      generalize stS a1 a2 a3 x0 x1 = SS at *
      generalize stC a1 a2 a3 x0 x1 = CC at *
      clear st1 st2 st3 hM hf hf' hT hlt hq HSTEP HLEN HS
      have NL := Below.nw wr (.cells #[.int .i64 x0, .int .i64 x1] 32)
      have E := Bx2.new wr (.int .i64 x0) (.int .i64 x1) 32
      go_upto_region 7 with fail
      clear c0 c1 hbb
      replace B := B.trans (NL.mono B.size)
      replace N := N.below NL
      replace R := R.below NL
      replace OW := own_belK' OW NL
      replace hjs := Nat.le_trans hjs NL.size
      clear NL
      generalize wr.alloc (.cells #[.int .i64 x0, .int .i64 x1] 32) = we at *
      generalize wr.heap.size = je at *
      obtain ⟨n0, n1, n2, n3, n4, n5, n6⟩ := id N
      obtain ⟨e0_, e1_, e2_, e3_, e4_⟩ := id E
      go_wp2_with fail
      refine (CS _).mono ?_
      rintro ee vx ⟨rfl, hb⟩
      clear n0 n1 n2 n3 n4 n5 n6
      clear e0_ e1_ e2_ e3_ e4_ E CS
      replace B := B.trans (hb.mono B.size)
      replace N := N.below hb
      replace R := R.below hb
      replace OW := own_belK' OW hb
      replace hjs := Nat.le_trans hjs hb.size
      clear hb
      have NL := Below.nw vx (.cells #[.int .i64 AA, .int .i64 EE, .int .i64 SS] 25)
      have Y := Tx3.new vx (.int .i64 AA) (.int .i64 EE) (.int .i64 SS) 25
      have hyw : w.heap.size < vx.heap.size := by omega
      go_upto_region 8 with fail
      replace B := B.trans (NL.mono B.size)
      replace N := N.below NL
      replace R := R.below NL
      replace OW := own_belK' OW NL
      replace hjs := Nat.le_trans hjs NL.size
      clear NL
      generalize vx.alloc (.cells #[.int .i64 AA, .int .i64 EE, .int .i64 SS] 25) = v1 at *
      generalize vx.heap.size = jz at *
      clear hyw
      skip
      generalize hLq : LC q = Lr at *
      by_cases hz : CC = 0
      · have hq0 : (CC == 0) = true := by simp [hz]
        have HL : Hid (LT (q + 1) = (AA, EE, SS)) := HS2.out hz
        clear hz HS2 HS3
        have NN := ((N.set0 (.int .i64 AA)).set1 (.int .i64 EE)).set2 (.int .i64 SS)
        have bz : But w.heap.size v1 _ := (((But.refl w.heap.size v1).setCell 0 (.int .i64 AA)).setCell 1 (.int .i64 EE)).setCell 2 (.int .i64 SS)
        have RZ := R.but bz (by omega)
        have OZ := own_butK OW bz (by omega)
        have BZ := B.trans (bz.below (Nat.le_refl _) B.size)
        have JZ : w.heap.size + 2 ≤ (((v1.setCell ⟨w.heap.size, 0, none⟩ (.int .i64 AA)).setCell ⟨w.heap.size, 1, none⟩ (.int .i64 EE)).setCell ⟨w.heap.size, 2, none⟩ (.int .i64 SS)).heap.size := Nat.le_trans hjs bz.2.2.2.1
        clear bz R OW B hjs hLq
        obtain ⟨y0, y1, y2, y3, y4, y5, y6⟩ := id Y
        obtain ⟨n0, n1, n2, n3, n4, n5, n6⟩ := id N
        go_upto_region 10 with fail
        clear n0 n1 n2 n3 n4 n5 n6 y0 y1 y2 y3 y4 y5 y6 N Y
        generalize ((v1.setCell ⟨w.heap.size, 0, none⟩ (.int .i64 AA)).setCell ⟨w.heap.size, 1, none⟩ (.int .i64 EE)).setCell ⟨w.heap.size, 2, none⟩ (.int .i64 SS) = v2 at *
        have N := NN
        have R := RZ
        have OW := OZ
        have B := BZ
        have hjs := JZ
        clear NN RZ OZ BZ JZ
        go_upto_region 11 with (at_builtin; refine add_code rfl _ _ rfl (w.heap.size + 2) Lr _ rfl OW rfl hlen hjs ?_; intro v' w9 O9 hg9 hn9)
        have G9 := grown_belowK OW hg9 hjs
        replace N := N.belowB G9 (by omega)
        replace R := R.belowB G9 (by omega)
        replace B := B.trans (G9.mono (Nat.le_add_right w.heap.size 2))
        replace hjs : w.heap.size + 2 ≤ w9.heap.size := Nat.le_trans hjs hg9.size
        have HO9 : Hid (w9.ownsRow (w.heap.size + 2) 3 1 v' (Lr ++ [CC]).length (irow (Lr ++ [CC]))) := O9
        clear O9 hg9 hn9 G9 OW
        go_wp2_with fail
        go_roundw
        case rel => exact ⟨q + 1, AA, EE, SS, HQ.out, by go_num, HL.out, N, R, by rw [HS1.out]; exact HO9.out, hjs, B⟩
        case measure => have hlt' := HQ.out; simp [intOf]; omega
      · have hq0 : (CC == 0) = false := by simp [hz]
        have HL : Hid (LT (q + 1) = (a1, a2, a3)) := HS3.out hz
        clear hz HS2 HS3 Y hLq
        go_upto_region 10 with fail
        go_upto_region 11 with (at_builtin; refine add_code rfl _ _ rfl (w.heap.size + 2) Lr _ rfl OW rfl hlen hjs ?_; intro v' w9 O9 hg9 hn9)
        have G9 := grown_belowK OW hg9 hjs
        replace N := N.belowB G9 (by omega)
        replace R := R.belowB G9 (by omega)
        replace B := B.trans (G9.mono (Nat.le_add_right w.heap.size 2))
        replace hjs : w.heap.size + 2 ≤ w9.heap.size := Nat.le_trans hjs hg9.size
        have HO9 : Hid (w9.ownsRow (w.heap.size + 2) 3 1 v' (Lr ++ [CC]).length (irow (Lr ++ [CC]))) := O9
        clear O9 hg9 hn9 G9 OW
        go_wp2_with fail
        go_roundw
        case rel => exact ⟨q + 1, a1, a2, a3, HQ.out, by go_num, HL.out, N, R, by rw [HS1.out]; exact HO9.out, hjs, B⟩
        case measure => have hlt' := HQ.out; simp [intOf]; omega
    · have hkn : q = n := by omega
      subst hkn
      have hli : ¬ (q : Int) < (q : Int) := by omega
      have HTq : Hid (LT q = (a1, a2, a3)) := hT
      clear HSTEP HLEN HS hT hlt hq h2 hm
      have RR := ((R.set0 (.int .i64 (a1))).set1 (.int .i64 (a2))).set2 (.int .i64 (a3))
      have bz : But (w.heap.size + 1) wr _ := (((But.refl (w.heap.size + 1) wr).setCell 0 (.int .i64 (a1))).setCell 1 (.int .i64 (a2))).setCell 2 (.int .i64 (a3))
      have OO := own_butK OW bz (by omega)
      have BB := B.trans (bz.below (Nat.le_add_right w.heap.size 1) B.size)
      obtain ⟨r0, r1, r2, r3, r4, r5, r6⟩ := id R
      obtain ⟨n0, n1, n2, n3, n4, n5, n6⟩ := id N
      go_wp2_with fail
      clear n0 n1 n2 n3 n4 n5 n6
      clear r0 r1 r2 r3 r4 r5 r6 bz
      generalize ((wr.setCell ⟨w.heap.size + 1, 0, none⟩ (.int .i64 (a1))).setCell ⟨w.heap.size + 1, 1, none⟩ (.int .i64 (a2))).setCell ⟨w.heap.size + 1, 2, none⟩ (.int .i64 (a3)) = vz at *
      obtain ⟨r0, r1, r2, r3, r4, r5, r6⟩ := id RR
      exact bodyPost_ret (v := .tuple #[.agg #[.int .i64 a1, .int .i64 a2, .int .i64 a3], u6]) (by simp (maxDischargeDepth := 6) [results, Try.results20, go_sem, r1, r2, r3]) rfl ⟨_, by rw [HTq.out], own_base17 OO (Nat.le_add_right w.heap.size 2), BB⟩
end Go.Proofs.Yteifibajafdnlaa
