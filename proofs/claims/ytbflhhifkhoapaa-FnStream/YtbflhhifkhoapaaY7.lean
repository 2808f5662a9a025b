/- What the draws of lists of messages leave. -/
import Derived.Test.YtbflhhifkhoapaaX8
import Derived.Test.YtbflhhifkhoapaaY3
import Derived.Deep.DeepCutAuto
import Derived.WalkKit
import Derived.WalkSpells
import Derived.WalkLawsBesides
import Derived.Deep.QuietTactic
import Derived.BigQuiet
namespace Go.Proofs.Ytbflhhifkhoapaa
open Go.RowKit
set_option linter.unusedVariables false
set_option maxHeartbeats 1000000 in
theorem l1Size_any (a : Option Addr) (n c : Nat) (w : World) (hn : n ≤ 1048576) :
    Calls Try.prog 56 #[.slice a n c, .int .i64 12] w fun e w' => ∃ x : Int, e = .returned (.int .i64 x) ∧ 0 ≤ x ∧ x ≤ 12 ∧ w = w' := by
  have hq : Int.tdiv (n : Int) 20 = (n : Int) / 20 := Int.tdiv_eq_ediv_of_nonneg (by omega)
  have q0 : 0 ≤ (n : Int) / 20 := by omega
  have q1 : (n : Int) / 20 ≤ 1048576 := by omega
  by_cases h : (12 : Int) < 2 + (n : Int) / 20
  · go_enter Try.func56, Try.ntmps56
    go_wp2_with fail
    go_ret
    exact ⟨12, rfl, by omega, by omega, rfl⟩
  · have hx : 2 + (n : Int) / 20 ≤ 12 := by omega
    go_enter Try.func56, Try.ntmps56
    go_wp2_with fail
    go_ret
    exact ⟨_, rfl, by omega, hx, rfl⟩
def smallM (A : List MT) : Prop := ∀ m ∈ A, (m.2.2.2.2.2.2.2).size ≤ 100
theorem smallM_add {A : List MT} {x0 : Int} {x1 : Int} {x2 : Int} {x3 : Int} {x4 : Int} {x5 : Int} {x6 : Int} {x7 : ByteArray} (h : smallM A) (h7 : x7.size ≤ 100) : smallM (A ++ [mT x0 x1 x2 x3 x4 x5 x6 x7]) := fun m hm => by
  rcases List.mem_append.1 hm with q | q
  · exact h m q
  · simp at q
    subst q
    exact h7
/- A row of messages of one's own beside the cursor. -/
def Mw (w0 : World) (B p : Nat) (w : World) (v : Value) (A : List MT) : Prop := w.ownsRow w0.heap.size 27 8 v A.length (mvs A) ∧ smallM A ∧ CurOk w B p ∧ But p w0 w ∧ p < w0.heap.size
theorem Mw.but {w0 w w' : World} {B p : Nat} {v : Value} {A : List MT} (h : Mw w0 B p w v A) (hc : CurOk w' B p) (hb : But p w w') : Mw w0 B p w' v A := ⟨own_but h.1 hb h.2.2.2.2, h.2.1, hc, h.2.2.2.1.trans hb, h.2.2.2.2⟩
theorem Mw.alloc {w0 w : World} {B p : Nat} {v : Value} {A : List MT} (h : Mw w0 B p w v A) (o : Obj) : Mw w0 B p (w.alloc o) v A := ⟨World.ownsRow.alloc h.1 _, h.2.1, h.2.2.1.below (Below.al _ _), h.2.2.2.1.alloc _, h.2.2.2.2⟩
theorem Mw.grown {w0 w w' : World} {B p : Nat} {v v' : Value} {A : List MT} {x0 : Int} {x1 : Int} {x2 : Int} {x3 : Int} {x4 : Int} {x5 : Int} {x6 : Int} {x7 : ByteArray} (h : Mw w0 B p w v A) (h7 : x7.size ≤ 100) (hg : w.grownBy w' v.ownBlock) (hown : w'.ownsRow w0.heap.size 27 8 v' (A.length + 1) (mvs A ++ [.int .i64 x0, .int .i64 x1, .int .i64 x2, .int .i64 x3, .int .i64 x4, .int .i64 x5, .int .i64 x6, .string x7])) : Mw w0 B p w' v' (A ++ [mT x0 x1 x2 x3 x4 x5 x6 x7]) := by
  obtain ⟨a1, a2, a3, a4, a5⟩ := h
  have G := grownB_below a1 hg a4.2.2.2.1
  exact ⟨by rw [mvs_add, List.length_append]; exact hown, smallM_add a2 h7, CurOk.belowB a3 G a5, But.thenBelow a4 G, a5⟩
set_option maxRecDepth 100000 in
set_option maxHeartbeats 4000000 in
theorem l4DrawMsgs_any (B p : Nat) (most : Int) (w : World) (hcur : CurOk w B p) (m0 : 0 ≤ most) (m1 : most ≤ 40) :
    Calls Try.prog 55 #[.pointer (some ⟨p, 0, none⟩), .int .i64 most] w fun e w' => ∃ (v : Value) (A : List MT), e = .returned v ∧ A.length ≤ 41 ∧ Mw w B p w' v A := by
  obtain ⟨i0, hi, hz0, hz1, hz2⟩ := info_parts infoMsg
  have hpl := hcur.lt
  go_enter Try.func55, Try.ntmps55
  go_wp2_with fail
  refine (l1Below_any B p _ _ hcur).mono ?_
  rintro e w1 ⟨x, rfl, xl, xh, xp, xz, c1, b1⟩
  have hx := xp (by omega)
  clear xp xz
  go_wp2_with fail
  refine (l1Once_any B p 25 _ c1).mono ?_
  rintro e w2 ⟨oo, rfl, c2, b2⟩
  replace b2 := b1.trans b2
  clear c1 b1 hcur
  go_upto_if 13 with fail
  go_cut [5] (fun s5 wx => ∃ m : Int, s5 = .int .i64 m ∧ 0 ≤ m ∧ m ≤ 41 ∧ CurOk wx B p ∧ But p w wx)
  case first =>
    cases oo
    · go_wp2_with fail
      go_meet
      case rel => exact ⟨x, rfl, xl, by omega, c2, b2⟩
    · go_wp2_with fail
      refine (l1Below_any B p 2 _ c2).mono ?_
      rintro e w3 ⟨y, rfl, yl, yh, yp, yz, c3, b3⟩
      have hy := yp (by omega)
      clear yp yz
      go_wp2_with fail
      go_meet
      case rel => exact ⟨_, rfl, by omega, by omega, c3, b2.trans b3⟩
  case rest =>
    obtain ⟨m, rfl, hm0, hm1, cc, bc⟩ := hcut
    have W0 : Mw w B p (wc.alloc (.cells #[] 27)) (.slice (some ⟨wc.heap.size, 0, none⟩) 0 0) [] := ⟨World.ownsRow_made wc #[] 0 bc.2.2.2.1 (by simp [maxLen]) (by simp), (fun m hm => by simp at hm), cc.below (Below.al _ _), bc.alloc _, hpl.1⟩
    clear c2 b2 xl hx
    go_wp2_with fail
    go_loopw [6, 7] (fun v i wr => ∃ A : List MT, (A.length : Int) ≤ m ∧ i = .int .i64 A.length ∧ Mw w B p wr v A) (fun _ i _ => m.toNat - (intOf i).toNat)
    case atStart => exact ⟨[], by simpa using hm0, rfl, W0⟩
    case round =>
      obtain ⟨A, hk, rfl, W⟩ := hrel
      clear W0
      by_cases hlt : (A.length : Int) < m
      · go_wp2_with fail
        refine (l4DrawRight_any B p _ W.2.2.1).mono ?_
        rintro e w3 ⟨x0, x1, x2, x3, x4, x5, x6, x7, rfl, h7, c3, b3⟩
        replace W := W.but c3 b3
        clear c3 b3
        go_wp2_with (at_builtin; refine wpList_append_own _ rfl _ _ 37 rfl w.heap.size 27 i0 (.agg #[.int .i64 0, .int .i64 0, .int .i64 0, .int .i64 0, .int .i64 0, .int .i64 0, .int .i64 0, .string ⟨#[]⟩]) 8 72 Try.underlying37 hi hz0 hz1 hz2 rfl (by decide) _ _ _ rfl (W.alloc _).1 ⟨w3.heap.size, 0, none⟩ 1 1 [.int .i64 x0, .int .i64 x1, .int .i64 x2, .int .i64 x3, .int .i64 x4, .int .i64 x5, .int .i64 x6, .string x7] rfl rfl (fun j u hj => eight_at w3 _ _ _ _ _ _ _ _ 27 j u hj) (eight_one _ _ _ _ _ _ _ _) (by unfold maxLen; omega) (by omega) (by have := W.2.2.2.1.2.2.2.1; simp; omega) ?_; intro v' wn hown' hgrow _)
        have W4 := (W.alloc _).grown h7 hgrow hown'
        clear hown' hgrow W
        (try go_wp2_with fail)
        go_roundw
        case rel => exact ⟨A ++ [mT x0 x1 x2 x3 x4 x5 x6 x7], by rw [List.length_append]; simp; omega, by rw [List.length_append]; simp, W4⟩
        case measure => simp [intOf]; omega
      · go_wp2_with fail
        go_ret
        exact ⟨_, rfl, A, by omega, W⟩
set_option maxHeartbeats 4000000 in
theorem DrawJoinMsgs_any (a : Option Addr) (n c : Nat) (w : World) (hn : n ≤ 1048576) (hcode : CodeB w w.heap.size a n) :
    Calls Try.prog 18 #[.slice a n c] w fun e w' => ∃ (v : Value) (A : List MT), e = .returned v ∧ A.length ≤ 42 ∧ smallM A ∧ w'.ownsRow w.heap.size 27 8 v A.length (mvs A) ∧ Below w.heap.size w w' := by
  obtain ⟨i0, hi, hz0, hz1, hz2⟩ := info_parts infoMsg
  go_enter Try.func18, Try.ntmps18
  go_wp2_with fail
  refine (l1New_any a n c _ hn hcode).mono ?_
  rintro e w1 ⟨p, rfl, hc, hb⟩
  have hl := hc.lt
  have hws : w.heap.size ≤ w1.heap.size := hb.size
  go_wp2_with fail
  refine (l1Size_any a n c _ hn).mono ?_
  rintro e w' ⟨sz, rfl, s0, s1, rfl⟩
  go_wp2_with fail
  refine (l4DrawMsgs_any _ p sz _ hc s0 (by omega)).mono ?_
  rintro e w2 ⟨v, A, rfl, hA, W⟩
  clear hc
  go_wp2_with fail
  refine (l1Once_any _ p 12 _ W.2.2.1).mono ?_
  rintro e w3 ⟨oo, rfl, c3, b3⟩
  replace W := W.but c3 b3
  clear c3 b3
  cases oo
  · go_wp2_with fail
    go_ret
    exact ⟨_, A, rfl, by omega, W.2.1, ownB_base W.1 hws, hb.trans (W.2.2.2.1.below hl.2 hws)⟩
  · go_wp2_with fail
    refine (l4DrawMsg_any _ p _ W.2.2.1).mono ?_
    rintro e w4 ⟨x0, x1, x2, x3, x4, x5, x6, x7, rfl, h7, c4, b4⟩
    replace W := W.but c4 b4
    clear c4 b4
    go_wp2_with (at_builtin; refine wpList_append_own _ rfl _ _ 37 rfl w1.heap.size 27 i0 (.agg #[.int .i64 0, .int .i64 0, .int .i64 0, .int .i64 0, .int .i64 0, .int .i64 0, .int .i64 0, .string ⟨#[]⟩]) 8 72 Try.underlying37 hi hz0 hz1 hz2 rfl (by decide) _ _ _ rfl (W.alloc _).1 ⟨w4.heap.size, 0, none⟩ 1 1 [.int .i64 x0, .int .i64 x1, .int .i64 x2, .int .i64 x3, .int .i64 x4, .int .i64 x5, .int .i64 x6, .string x7] rfl rfl (fun j u hj => eight_at w4 _ _ _ _ _ _ _ _ 27 j u hj) (eight_one _ _ _ _ _ _ _ _) (by unfold maxLen; omega) (by omega) (by have := W.2.2.2.1.2.2.2.1; simp; omega) ?_; intro v' wn hown' hgrow _)
    have W5 := (W.alloc _).grown h7 hgrow hown'
    clear hown' hgrow W
    (try go_wp2_with fail)
    go_ret
    exact ⟨_, A ++ [mT x0 x1 x2 x3 x4 x5 x6 x7], rfl, by rw [List.length_append]; simp; omega, W5.2.1, ownB_base W5.1 hws, hb.trans (W5.2.2.2.1.below hl.2 hws)⟩
end Go.Proofs.Ytbflhhifkhoapaa
