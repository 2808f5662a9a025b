/- Contracts of PeerDrop and PeerAge in the program. -/
import Derived.Test.YtkeijldfblgeaaaI112
import Derived.Test.YtkeijldfblgeaaaI108
import Derived.WalkKit
import Derived.WalkSpells
import Derived.WalkLawsBesides
import Derived.Deep.RegionHeld
namespace Go.Proofs.Ytkeijldfblgeaaa
open Go.RowKit
set_option linter.unusedVariables false
theorem look_nilP (w : World) (x : Int) (ok : Bool) : (Instr.lookup 66 (.map none) (.int .i64 x) ok).run Try.prog w = .ok (if ok then .tuple #[pv zP, .bool false] else pv zP) w := by
  cases ok
  · kernel_rfl
  · kernel_rfl
theorem drA_lk {M : Nat → PT} {n : Nat} (h : oks M n = true) (x : Int) : drA M x n = if (lkP M n x).isSome then 0 else 2 := by
  unfold drA
  have e : ((lst M n).any fun p => p.1 == x) = (lkP M n x).isSome := by
    rw [Bool.eq_iff_iff, List.any_eq_true]
    constructor
    · rintro ⟨q, hq, he⟩
      have := ((FLP.ofLst h).2 x q).2 ⟨hq, by simpa using he⟩
      rw [this]; rfl
    · intro hs
      obtain ⟨q, hq⟩ := Option.isSome_iff_exists.1 hs
      have := ((FLP.ofLst h).2 x q).1 hq
      exact ⟨q, this.1, by simpa using this.2⟩
  rw [e]
theorem drC_none {M : Nat → PT} {n : Nat} (h : oks M n = true) {x : Int} (hx : lkP M n x = none) : drC M n x = 2 := by rw [(drL_t h).2, drA_lk h, hx]; rfl
theorem drC_some {M : Nat → PT} {n : Nat} (h : oks M n = true) {x : Int} {p : PT} (hx : lkP M n x = some p) : drC M n x = 0 := by rw [(drL_t h).2, drA_lk h, hx]; rfl
set_option maxRecDepth 100000 in
set_option maxHeartbeats 4000000 in
theorem implPeerDrop_any (a : Option Addr) (n c : Nat) (M : Nat → PT) (x : Int) (w : World) (hm : n ≤ maxLen) (hs : SrcC w a (n * 5) (MFPeer M)) (wx : (Lit.int .i64 x).wf = true) :
    Calls Try.prog 16 #[.slice a n c, .int .i64 x] w fun e w' => ∃ v, e = .returned (.tuple #[v, .int .i64 (drC M n x)]) ∧ w'.ownsRow w.heap.size 51 5 v (drL M n x).length (prow (drL M n x)) ∧ Below w.heap.size w w' := by
  cases h1 : oks M n
  · rw [(drL_f h1).1, (drL_f h1).2]
    have C1 := rosterOf_bad a n c M w hm hs h1
    clear hs
    go_enter Try.func16, Try.ntmps16
    go_wp2_with fail
    refine C1.mono ?_
    rintro e w1 ⟨rfl, hb⟩
    go_wp2_with fail
    exact bodyPost_ret (v := (.tuple #[.slice none 0 0, .int .i64 1])) (by simp (maxDischargeDepth := 6) [results, Try.results16, go_sem, *]) rfl ⟨_, rfl, nil_peer _ _, hb⟩
  rw [(drL_t h1).1]
  have C1 := rosterOf_ok a n c M w hm hs h1
  have HF : Hid (FLP (lkP M n) (lst M n)) := FLP.ofLst h1
  have hn8 := oks_le h1
  have hLn : (lst M n).length ≤ 9 := by rw [lst_len]; omega
  have hDn : (drN M x n).length ≤ 9 := by have := drN_len M x n; omega
  clear hs
  cases hx : lkP M n x with
  | none =>
    rw [drC_none h1 hx]
    go_enter Try.func16, Try.ntmps16
    go_wp2_with fail
    refine C1.mono ?_
    rintro e w1 ⟨b, rfl, hbb, MP, hb⟩
    clear C1
    have hlk := MP.look_ok wx
    have HD : Hid (drN M x n = lst M n) := HF.out.none_same hx
    rw [hx] at hlk
    simp only [Option.getD, Option.isSome, pv, zP] at hlk
    have A1 := Below.nw w1 (.cells #[.int .i64 0, .int .i64 0, .int .i64 0, .int .i64 0, .bool false] 51)
    replace MP := MP.below A1
    replace hb := hb.trans (A1.mono hb.size)
    go_upto_region 5 with fail
    clear hlk A1
    generalize w1.alloc (.cells #[.int .i64 0, .int .i64 0, .int .i64 0, .int .i64 0, .bool false] 51) = w2 at *
    go_wp2_with fail
    refine (list_any b n _ _ _ MP HF.out hLn).mono ?_
    rintro e w3 ⟨v, rfl, O3, hb3⟩
    replace hb3 := hb.trans (hb3.mono hb.size)
    obtain ⟨av, cv, rfl, _, _, _⟩ := ownF_src O3
    have HO : Hid (w3.ownsRow w2.heap.size 51 5 (.slice av (lst M n).length cv) (lst M n).length (prow (lst M n))) := O3
    clear MP O3
    have hbs := hb.size
    go_wp2_with fail
    exact bodyPost_ret (v := (.tuple #[.slice av (lst M n).length cv, .int .i64 2])) (by simp (maxDischargeDepth := 6) [results, Try.results16, go_sem, *]) rfl ⟨_, rfl, by rw [HD.out]; exact own_base HO.out hbs, hb3⟩
  | some p =>
    rw [drC_some h1 hx]
    go_enter Try.func16, Try.ntmps16
    go_wp2_with fail
    refine C1.mono ?_
    rintro e w1 ⟨b, rfl, hbb, MP, hb⟩
    clear C1
    have hlk := MP.look_ok wx
    have HD : Hid (FLP (fun y => if y = x then none else lkP M n y) (drN M x n)) := HF.out.del x
    rw [hx] at hlk
    obtain ⟨y0, y1, y2, y3, y4⟩ := p
    simp only [Option.getD, Option.isSome, pv] at hlk
    have A1 := Below.nw w1 (.cells #[.int .i64 y0, .int .i64 y1, .int .i64 y2, .int .i64 y3, .bool y4] 51)
    replace MP := MP.below A1
    replace hb := hb.trans (A1.mono hb.size)
    go_upto_region 5 with fail
    clear hlk A1
    generalize w1.alloc (.cells #[.int .i64 y0, .int .i64 y1, .int .i64 y2, .int .i64 y3, .bool y4] 51) = w2 at *
    have hbs := hb.size
    obtain ⟨w4, hrun, MP4, hg4⟩ := MP.del wx 0
    have B4 := hb.trans ((But.ofGrownK hg4).below hbb hbs)
    have hdl := hrun
    clear MP hg4 hrun
    go_upto_region 8 with fail
    clear hdl
    go_wp2_with fail
    refine (list_any b n _ _ _ MP4 HD.out hDn).mono ?_
    rintro e w3 ⟨v, rfl, O3, hb3⟩
    replace hb3 := B4.trans (hb3.mono B4.size)
    obtain ⟨av, cv, rfl, _, _, _⟩ := ownF_src O3
    have HO : Hid (w3.ownsRow w4.heap.size 51 5 (.slice av (drN M x n).length cv) (drN M x n).length (prow (drN M x n))) := O3
    clear MP4 O3
    have hbs4 := B4.size
    go_wp2_with fail
    exact bodyPost_ret (v := (.tuple #[.slice av (drN M x n).length cv, .int .i64 0])) (by simp (maxDischargeDepth := 6) [results, Try.results16, go_sem, *]) rfl ⟨_, rfl, own_base HO.out hbs4, hb3⟩
theorem agO_lo {y : Int} {p : PT} (h : y < p.2.2.2.1) : agO y (some p) = -1 := by
  show imx (y - p.2.2.2.1) (-1) = -1
  unfold imx
  split <;> omega
theorem agO_hi {y : Int} {p : PT} (h : ¬ y < p.2.2.2.1) : agO y (some p) = y - p.2.2.2.1 := by
  show imx (y - p.2.2.2.1) (-1) = _
  unfold imx
  split <;> omega
set_option maxRecDepth 100000 in
set_option maxHeartbeats 4000000 in
theorem implPeerAge_any (a : Option Addr) (n c : Nat) (M : Nat → PT) (x y : Int) (w : World) (hm : n ≤ maxLen) (hs : SrcC w a (n * 5) (MFPeer M)) (wx : (Lit.int .i64 x).wf = true) (wy : (Lit.int .i64 y).wf = true) :
    Calls Try.prog 9 #[.slice a n c, .int .i64 x, .int .i64 y] w fun e w' => e = .returned (.int .i64 (pAge M n x y)) ∧ Below w.heap.size w w' := by
  cases h1 : oks M n
  · rw [pAge_1 h1]
    have C1 := rosterOf_bad a n c M w hm hs h1
    have hlk := fun w' => look_nilP w' x true
    simp only [if_true, pv, zP] at hlk
    clear hs
    go_enter Try.func9, Try.ntmps9
    go_wp2_with fail
    refine C1.mono ?_
    rintro e w1 ⟨rfl, hb⟩
    have A1 := hb.alloc hb.size (.cells #[.int .i64 0, .int .i64 0, .int .i64 0, .int .i64 0, .bool false] 51)
    go_wp2_with fail
    go_ret
    exact ⟨rfl, A1⟩
  have C1 := rosterOf_ok a n c M w hm hs h1
  have HOK : Hid (oks M n = true) := h1
  clear hs
  cases hx : lkP M n x with
  | none =>
    have e0 : pAge M n x y = -1 := by unfold pAge; split; rw [hx]; rfl; rfl
    rw [e0]
    clear e0
    go_enter Try.func9, Try.ntmps9
    go_wp2_with fail
    refine C1.mono ?_
    rintro e w1 ⟨b, rfl, hbb, MP, hb⟩
    have hlk := MP.look_ok wx
    rw [hx] at hlk
    simp only [Option.getD, Option.isSome, pv, zP] at hlk
    have A1 := hb.alloc hb.size (.cells #[.int .i64 0, .int .i64 0, .int .i64 0, .int .i64 0, .bool false] 51)
    clear MP C1
    go_wp2_with fail
    go_ret
    exact ⟨rfl, A1⟩
  | some p =>
    obtain ⟨j, hj, hMj, -⟩ := lkP_some hx
    have hat := okT_t (oks_p h1 hj).2.2
    rw [hMj] at hat
    obtain ⟨y0, y1, y2, y3, y4⟩ := p
    have hat0 : 0 ≤ y3 := hat.1
    have hat1 : y3 ≤ 1000000000000 := hat.2
    clear hat hMj hj
    cases h2 : okT y
    · rw [pAge_2 h2]
      go_enter Try.func9, Try.ntmps9
      go_wp2_with fail
      refine C1.mono ?_
      rintro e w1 ⟨b, rfl, hbb, MP, hb⟩
      have hlk := MP.look_ok wx
      rw [hx] at hlk
      simp only [Option.getD, Option.isSome, pv] at hlk
      have A1 := hb.alloc hb.size (.cells #[.int .i64 y0, .int .i64 y1, .int .i64 y2, .int .i64 y3, .bool y4] 51)
      clear MP C1
      go_wp2_with fail
      refine (isTime_any _ _).mono ?_
      rintro e w' ⟨rfl, rfl⟩
      rw [h2]
      go_wp2_with fail
      go_ret
      exact ⟨rfl, A1⟩
    · rw [pAge_t h1 h2, hx]
      have ⟨hy0, hy1⟩ := okT_t h2
      by_cases h4 : y < y3
      · rw [agO_lo (p := (y0, y1, y2, y3, y4)) h4]
        go_enter Try.func9, Try.ntmps9
        go_wp2_with fail
        refine C1.mono ?_
        rintro e w1 ⟨b, rfl, hbb, MP, hb⟩
        have hlk := MP.look_ok wx
        rw [hx] at hlk
        simp only [Option.getD, Option.isSome, pv] at hlk
        have A1 := hb.alloc hb.size (.cells #[.int .i64 y0, .int .i64 y1, .int .i64 y2, .int .i64 y3, .bool y4] 51)
        clear MP C1
        go_wp2_with fail
        refine (isTime_any _ _).mono ?_
        rintro e w' ⟨rfl, rfl⟩
        rw [h2]
        go_wp2_with fail
        go_ret
        exact ⟨rfl, A1⟩
      · rw [agO_hi (p := (y0, y1, y2, y3, y4)) h4]
        go_enter Try.func9, Try.ntmps9
        go_wp2_with fail
        refine C1.mono ?_
        rintro e w1 ⟨b, rfl, hbb, MP, hb⟩
        have hlk := MP.look_ok wx
        rw [hx] at hlk
        simp only [Option.getD, Option.isSome, pv] at hlk
        have A1 := hb.alloc hb.size (.cells #[.int .i64 y0, .int .i64 y1, .int .i64 y2, .int .i64 y3, .bool y4] 51)
        clear MP C1
        go_wp2_with fail
        refine (isTime_any _ _).mono ?_
        rintro e w' ⟨rfl, rfl⟩
        rw [h2]
        go_wp2_with fail
        go_ret
        exact ⟨rfl, A1⟩
end Go.Proofs.Ytkeijldfblgeaaa
