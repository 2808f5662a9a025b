/- The contract of runsOf: the runs, by a loop over the turns. -/
import Derived.Test.YtaggohibfghnmaaX97
import Derived.RangeFuncBox
import Derived.RangeFuncNested
import Derived.RangeFuncBound
import Derived.RangeFuncCalls
import Derived.RangeFuncLeaves
import Derived.Shelf.Abstract
import Derived.Shelf.RegionOpen
import Derived.OwnWalkIn
import Derived.TacticsInMore
import Derived.LoopNIn
import Derived.LoopIn
import Derived.Maps.OwnIn
import Derived.Maps.AppendAt
import Derived.WalkKit
import Derived.WalkSpells
import Derived.WalkLawsBesides
import Derived.Deep.RegionHeld
namespace Go.Proofs.Ytaggohibfghnmaa
open Go.RowKit
set_option linter.unusedVariables false
open Go.Maps Go.Sort Go.Shelf
attribute [local go_sem] Oper.semAt_some
theorem Kp9.alloc {B : Nat} (W : World) (o : Obj) : Kp9 B W (W.alloc o) := Kp9.grown (World.grownBy_alloc W o none) (fun j o e => by cases e)
theorem Kp9.setCell {B : Nat} (W : World) {b : Nat} (hb : b < B) (u : Value) : Kp9 B W (W.setCell ⟨b, 0, none⟩ u) := Kp9.grown (grownBy_setCell' W b u) (fun j o e hj => by cases e; omega)
theorem Kp9.app {B base n : Nat} {W W' : World} {v : Value} {xs : List Value} (hr : W.ownsRow base 25 2 v n xs) (hg : W.grownBy W' v.ownBlock) : Kp9 B W W' := Kp9.grown hg (fun j o e hj ho hk => by
  rcases hr.2 with ⟨rfl, _⟩ | ⟨g, cap, cur, rfl, _, hgb, _⟩
  · simp [Value.ownBlock] at e
  · obtain rfl : g = j := by simpa [Value.ownBlock] using e
    rw [hgb] at ho; cases ho
    rcases hk with hk | ⟨cs, hk⟩
    · cases hk
    · simp at hk)
/- What a loop over the turns has in its boxes: k, the runs told, where one began, whether one has. -/
def RBx (k : Int) (B : Nat) (s : Bool × Int × List (Int × Int)) (W : World) : Prop :=
  (∃ v, Boxed W (B + 1) 26 v ∧ W.ownsRow B 25 2 v s.2.2.length (prs s.2.2) ∧ True) ∧ Boxed W B 3 (.int .i64 k) ∧ Boxed W (B + 1 + 1) 3 (.int .i64 s.2.1) ∧ Boxed W (B + 1 + 1 + 1) 4 (.bool s.1)
set_option maxRecDepth 100000 in
set_option maxHeartbeats 4000000 in
theorem runsOf_in (a : Option Addr) (n c : Nat) (f : Nat → Int × Int) (k : Int) (w : World) (hn : n ≤ 12) (ho : allOk f n = true) (hs : Src w a n f) :
    CallsIn Fence.wide 7 Try.prog 46 #[.slice a n c, .int .i64 k] w fun e w' => ∃ v, e = .returned v ∧ w'.ownsRow w.heap.size 25 2 v (rns f n k).length (prs (rns f n k)) ∧ Below w.heap.size w w' := by
  obtain ⟨i0, hi, hz0, hz1, hz2⟩ := info_parts infoIval
  obtain ⟨xs, hxs⟩ := turns_have hn ho
  have hxl : xs.length ≤ 24 := by have := congrArg List.length hxs; rw [vals_len, trs_len] at this; have := trn_len f (2 * n); omega
  refine callsIn_of_wp_marks Try.func46 rfl trivial ?_ rfl
  simp only [Try.ntmps46, List.size_toArray, List.length_cons, List.length_nil, Nat.reduceAdd, Nat.reduceSub, Array.replicate_succ, Array.replicate_zero, List.push_toArray, List.append_toArray, List.nil_append, List.cons_append]
  have cT := fun (W : World) => turns_of a n c 6 W
  have hfT : Fence.wide.fn 61 := trivial
  have BK := Boxed.new w 3 (.int .i64 k)
  have BR := Boxed.new (w.alloc (.cells #[.int .i64 k] 3)) 26 (.slice none 0 0)
  have BF := Boxed.new ((w.alloc (.cells #[.int .i64 k] 3)).alloc (.cells #[.slice none 0 0] 26)) 3 (.int .i64 0)
  have BB := Boxed.new (((w.alloc (.cells #[.int .i64 k] 3)).alloc (.cells #[.slice none 0 0] 26)).alloc (.cells #[.int .i64 0] 3)) 4 (.bool false)
  have BL := Boxed.new ((((w.alloc (.cells #[.int .i64 k] 3)).alloc (.cells #[.slice none 0 0] 26)).alloc (.cells #[.int .i64 0] 3)).alloc (.cells #[.bool false] 4)) 26 (.slice a n c)
  simp only [World.size_alloc] at BR BF BB BL
  have BK5 := (((BK.alloc (.cells #[.slice none 0 0] 26)).alloc (.cells #[.int .i64 0] 3)).alloc (.cells #[.bool false] 4)).alloc (.cells #[.slice a n c] 26)
  have BR5 := ((BR.alloc (.cells #[.int .i64 0] 3)).alloc (.cells #[.bool false] 4)).alloc (.cells #[.slice a n c] 26)
  have BF5 := (BF.alloc (.cells #[.bool false] 4)).alloc (.cells #[.slice a n c] 26)
  have BB5 := BB.alloc (.cells #[.slice a n c] 26)
  have B5 : Below w.heap.size w (((((w.alloc (.cells #[.int .i64 k] 3)).alloc (.cells #[.slice none 0 0] 26)).alloc (.cells #[.int .i64 0] 3)).alloc (.cells #[.bool false] 4)).alloc (.cells #[.slice a n c] 26)) := by repeat (first | exact Below.refl _ _ | refine Below.drew ?_ | refine Below.alloc ?_ (by first | (simp; done) | (simp; omega) | omega) _ | refine Below.setCell ?_ (by first | (simp; done) | (simp; omega) | omega) _ | refine Below.trans ?_ (Below.mono (by assumption) (by first | (simp; done) | (simp; omega) | omega)))
  have hsz5 : (((((w.alloc (.cells #[.int .i64 k] 3)).alloc (.cells #[.slice none 0 0] 26)).alloc (.cells #[.int .i64 0] 3)).alloc (.cells #[.bool false] 4)).alloc (.cells #[.slice a n c] 26)).heap.size = w.heap.size + 1 + 1 + 1 + 1 + 1 := by simp
  clear BK BR BF BB
  gi_wp2_with (gi_at_call 61; refine (cT _).mono ?_; rintro e w' ⟨rfl, rfl⟩)
  (try simp only [World.size_alloc])
  generalize (((((w.alloc (.cells #[.int .i64 k] 3)).alloc (.cells #[.slice none 0 0] 26)).alloc (.cells #[.int .i64 0] 3)).alloc (.cells #[.bool false] 4)).alloc (.cells #[.slice a n c] 26)) = w5 at *
  refine wpIn_rangeFunc_ownG rfl (by omega) (gf := 63) (lb := #[.pointer (some ⟨w.heap.size + 1 + 1 + 1 + 1, 0, none⟩)]) rfl trivial (enters_of Try.func63 (by kernel_rfl) rfl)
    (turns_stops (w.heap.size + 1 + 1 + 1 + 1) w5.heap.size a n c f xs w5 hn ho hxs (Nat.le_refl _) BL.cell (by omega) (hs.below B5)) (fun h1 h2 => Kp9.trans h1 h2) (fun W l o o' _ h1 h2 h3 => Kp9.put o' h1 h2 h3) (Below.refl _ _) (fun _ => rfl)
    (fun pre W => RBx k w.heap.size (rst k (vals pre)) W ∧ Below w.heap.size w W)
    (fun _ _ _ => False)
    (OwnFrom.and (OwnFrom.and (Own.from (holdsRow_own w.heap.size (w.heap.size + 1) 26 25 2 (fun pre => (rst k (vals pre)).2.2.length) (fun pre => prs (rst k (vals pre)).2.2) (fun pre v => True)) _) (OwnFrom.and (Own.from (boxed_own w.heap.size 3 (fun _ => .int .i64 k)) _) (OwnFrom.and (Own.from (boxed_own (w.heap.size + 1 + 1) 3 (fun pre => .int .i64 (rst k (vals pre)).2.1)) _) (Own.from (boxed_own (w.heap.size + 1 + 1 + 1) 4 (fun pre => .bool (rst k (vals pre)).1)) _)))) (ownFrom_below (Nat.le_refl _) (by omega)))
    (fun _ _ _ _ _ hs _ _ => hs)
    ⟨⟨⟨_, BR5, World.ownsRow_nil _ _ _ _, trivial⟩, BK5, BF5, BB5⟩, B5⟩
    (fun x => { tmps := #[.slice a n c, .int .i64 k, undef, .pointer (some ⟨w.heap.size, 0, none⟩), .slice none 0 0, .pointer (some ⟨w.heap.size + 1, 0, none⟩), .pointer (some ⟨w.heap.size + 1 + 1, 0, none⟩), .pointer (some ⟨w.heap.size + 1 + 1 + 1, 0, none⟩), .int .i64 x.1.1, .int .i64 x.1.2, .slice a n c, .func (.func 63) #[] #[.pointer (some ⟨w.heap.size + 1 + 1 + 1 + 1, 0, none⟩)], .int .i64 x.1.1, .int .i64 x.1.2, undef, undef, undef, undef, undef, undef, undef, undef, undef, undef, undef, undef, undef, undef, undef, undef, undef, undef, undef, undef, undef, undef, undef, undef], defers := [] }) ?assign ?body ?done ?stop
  case assign =>
    intro l x W K hK
    gi_wp2
    exact hK
  case body =>
    rintro l pre x W ⟨⟨⟨v, hv, hrow, -⟩, hk, hf, hb⟩, hB⟩ hlt
    have HE : Hid (rst k (vals (pre ++ [x])) = rstep k (rst k (vals pre)) x.1) := by rw [Hid, vals_add, rst_add]
    have hl := rst_len k (vals pre)
    rw [vals_len] at hl
    obtain ⟨⟨p, cv⟩, ⟨hp1, hp2⟩, hc1, hc2⟩ := x
    simp only at hp1 hp2 hc1 hc2 HE ⊢
    generalize rst k (vals pre) = s at *
    obtain ⟨s1, s2, s3⟩ := s
    simp only at hrow hf hb hl
    have ck := hk.cell
    have cf := hf.cell
    have cb := hb.cell
    have cr := hv.cell
    have ff := hf.frozen
    have fb := hb.frozen
    have hne1 : w.heap.size + 1 + 1 ≠ w.heap.size + 1 + 1 + 1 := by omega
    have hne2 : w.heap.size + 1 ≠ w.heap.size + 1 + 1 := by omega
    have hne3 : w.heap.size + 1 ≠ w.heap.size + 1 + 1 + 1 := by omega
    have hne4 : w.heap.size ≠ w.heap.size + 1 + 1 := by omega
    have hne5 : w.heap.size ≠ w.heap.size + 1 + 1 + 1 := by omega
    by_cases hcv : k ≤ cv
    · have hd1 : decide (cv < k) = false := by simp; omega
      have hd2 : decide (k ≤ cv) = true := by simpa using hcv
      cases s1
      · have E : Hid (rst k (vals (pre ++ [⟨(p, cv), ⟨hp1, hp2⟩, hc1, hc2⟩])) = (true, p, s3)) := by rw [Hid, HE.out]; simp [rstep, hcv]
        have R1 := own_set (own_set hrow (k := w.heap.size + 1 + 1) (fun g hg e => (hf.not_row (by decide) hrow) (by rw [hg, e])) 0 (.int .i64 p)) (k := w.heap.size + 1 + 1 + 1) (fun g hg e => (hb.not_row (by decide) hrow) (by rw [hg, e])) 0 (.bool true)
        have V1 := (hv.other hne2 (.int .i64 p)).other hne3 (.bool true)
        have K1 := (hk.other hne4 (.int .i64 p)).other hne5 (.bool true)
        have F1 := (hf.set (.int .i64 p)).other hne1 (.bool true)
        have B1 := (hb.other (Ne.symm hne1) (.int .i64 p)).set (.bool true)
        have fb1 := (hb.other (Ne.symm hne1) (.int .i64 p)).cell
        have fz1 := (hb.other (Ne.symm hne1) (.int .i64 p)).frozen
        have BB1 := (hB.setCell (p := ⟨w.heap.size + 1 + 1, 0, none⟩) (by simp; omega) (.int .i64 p)).setCell (p := ⟨w.heap.size + 1 + 1 + 1, 0, none⟩) (by simp; omega) (.bool true)
        have P1 : Kp9 w5.heap.size W ((W.setCell ⟨w.heap.size + 1 + 1, 0, none⟩ (.int .i64 p)).setCell ⟨w.heap.size + 1 + 1 + 1, 0, none⟩ (.bool true)) := (Kp9.setCell W (by omega) _).trans (Kp9.setCell _ (by omega) _)
        have Q1 : KeepsFrom w5.heap.size W ((W.setCell ⟨w.heap.size + 1 + 1, 0, none⟩ (.int .i64 p)).setCell ⟨w.heap.size + 1 + 1 + 1, 0, none⟩ (.bool true)) := ((KeepsOthers.setCell W _ _).trans (KeepsOthers.setCell _ _ _)).from _
        gi_wp2
        exact ⟨Q1, P1, ⟨⟨v, V1, by rw [E.out]; exact R1, trivial⟩, K1, by rw [E.out]; exact F1, by rw [E.out]; exact B1⟩, BB1⟩
      · have E : Hid (rst k (vals (pre ++ [⟨(p, cv), ⟨hp1, hp2⟩, hc1, hc2⟩])) = (true, s2, s3)) := by rw [Hid, HE.out]; simp [rstep]; omega
        gi_wp2
        exact ⟨KeepsFrom.refl _ _, Kp9.refl _ _, ⟨⟨v, hv, by rw [E.out]; exact hrow, trivial⟩, hk, by rw [E.out]; exact hf, by rw [E.out]; exact hb⟩, hB⟩
    · have hd1 : decide (cv < k) = true := by simp; omega
      have hd2 : decide (k ≤ cv) = false := by simpa using hcv
      cases s1
      · have E : Hid (rst k (vals (pre ++ [⟨(p, cv), ⟨hp1, hp2⟩, hc1, hc2⟩])) = (false, s2, s3)) := by rw [Hid, HE.out]; simp [rstep]; omega
        gi_wp2
        exact ⟨KeepsFrom.refl _ _, Kp9.refl _ _, ⟨⟨v, hv, by rw [E.out]; exact hrow, trivial⟩, hk, by rw [E.out]; exact hf, by rw [E.out]; exact hb⟩, hB⟩
      · have E : Hid (rst k (vals (pre ++ [⟨(p, cv), ⟨hp1, hp2⟩, hc1, hc2⟩])) = (false, s2, s3 ++ [(s2, p - 1)])) := by rw [Hid, HE.out]; simp [rstep]; omega
        have hBs := hB.size
        gi_wp2_with (gi_at_builtin; refine wpListIn_append_own _ rfl _ _ 26 rfl w.heap.size 25 i0 (.agg #[.int .i64 0, .int .i64 0]) 2 16 Try.underlying26 hi hz0 hz1 hz2 rfl (by decide) _ _ _ rfl (hrow.alloc _) ⟨W.heap.size, 0, none⟩ 1 1 [.int .i64 s2, .int .i64 (p - 1)] rfl rfl (fun j u hj => pair_at W _ _ 25 j u hj) (by intro u hu; simp at hu; rcases hu with rfl | rfl <;> rfl) (by unfold maxLen; omega) (by omega) (by simp; omega) ?_; intro v' w1 hown' hgrow _; obtain ⟨g', cap', rfl⟩ := ownsRow_succ hown'; obtain ⟨hv1, hv2, hr2, hk2, hb2⟩ := hv.appended (by decide) hrow hBs (Nat.le_succ _) hown' hgrow; have hc1' := hv1.cell; have hf1' := hv1.frozen; (have nk := hk.not_row (by decide) hrow); (have nf := hf.not_row (by decide) hrow); (have nb := hb.not_row (by decide) hrow); (have hk1 := ((hk.alloc _).kept hgrow nk).other (B' := w.heap.size + 1) (by omega) (.slice (some ⟨g', 0, none⟩) (s3.length + 1) cap')); (have hf1 := ((hf.alloc _).kept hgrow nf).other (B' := w.heap.size + 1) (by omega) (.slice (some ⟨g', 0, none⟩) (s3.length + 1) cap')); (have hb1 := ((hb.alloc _).kept hgrow nb).other (B' := w.heap.size + 1) (by omega) (.slice (some ⟨g', 0, none⟩) (s3.length + 1) cap')); (have KP1 : Kp9 w5.heap.size W (w1.setCell ⟨w.heap.size + 1, 0, none⟩ (.slice (some ⟨g', 0, none⟩) (s3.length + 1) cap')) := ((Kp9.alloc W _).trans (Kp9.app (hrow.alloc _) hgrow)).trans (Kp9.setCell _ (by omega) _)); have cb1 := hb1.cell; have fb1 := hb1.frozen)
        have R3 : ((w1.setCell ⟨w.heap.size + 1, 0, none⟩ (.slice (some ⟨g', 0, none⟩) (s3.length + 1) cap')).setCell ⟨w.heap.size + 1 + 1 + 1, 0, none⟩ (.bool false)).ownsRow w.heap.size 25 2 (.slice (some ⟨g', 0, none⟩) (s3.length + 1) cap') (s3 ++ [(s2, p - 1)]).length (prs (s3 ++ [(s2, p - 1)])) := by
          have := own_set hr2 (k := w.heap.size + 1 + 1 + 1) (fun g hg e => (hb1.not_row (by decide) hr2) (by rw [hg, e])) 0 (.bool false)
          rw [prs_add]; simpa using this
        have P3 := KP1.trans (Kp9.setCell (B := w5.heap.size) (w1.setCell ⟨w.heap.size + 1, 0, none⟩ (.slice (some ⟨g', 0, none⟩) (s3.length + 1) cap')) (b := w.heap.size + 1 + 1 + 1) (by omega) (.bool false))
        rw [hsz5] at P3
        exact ⟨(hk2.trans (KeepsOthers.setCell _ _ _)).from _, P3, ⟨⟨_, hv2.other hne3 _, by rw [E.out]; exact R3, trivial⟩, hk1.other hne5 _, by rw [E.out]; exact hf1.other hne1 _, by rw [E.out]; exact hb1.set _⟩, (hB.trans hb2).setCell (p := ⟨w.heap.size + 1 + 1 + 1, 0, none⟩) (by simp; omega) _⟩
  case done =>
    rintro D ys W hD rfl ⟨⟨⟨v, hv, hrow, -⟩, hk, hf, hb⟩, hB⟩ hK
    have hc := hv.cell
    rw [hxs] at hrow
    gi_wp2
    refine ⟨by simp, .inl ⟨_, _, rfl, run_takeDeferred hK, ?_⟩⟩
    exact ⟨_, results_tmp rfl _ _ _, v, rfl, ownsRow_putObj hrow _ hK rfl, hB.trans (belowK_b (w := w) (Nat.le_refl _) W D _ _ (by omega) hK rfl rfl)⟩
  case stop =>
    rintro D c pre W _ _ h _
    exact h.elim
theorem runsOf_any (a : Option Addr) (n c : Nat) (f : Nat → Int × Int) (k : Int) (w : World) (hn : n ≤ 12) (ho : allOk f n = true) (hs : Src w a n f) :
    Calls Try.prog 46 #[.slice a n c, .int .i64 k] w fun e w' => ∃ v, e = .returned v ∧ w'.ownsRow w.heap.size 25 2 v (rns f n k).length (prs (rns f n k)) ∧ Below w.heap.size w w' :=
  (callsIn_wide (n := 7)).1 (runsOf_in a n c f k w hn ho hs)
set_option maxHeartbeats 1000000 in
theorem implRuns_any (a : Option Addr) (n c : Nat) (f : Nat → Int × Int) (k : Int) (w : World) (hm : n ≤ maxLen) (hs : Src w a n f) :
    Calls Try.prog 17 #[.slice a n c, .int .i64 k] w fun e w' => ∃ v, e = .returned v ∧ w'.ownsRow w.heap.size 25 2 v (rnL f n k).length (prs (rnL f n k)) ∧ Below w.heap.size w w' := by
  have CS := implSources a n c f w hm hs
  have N0 : ∀ (v : World), v.ownsRow w.heap.size 25 2 (.slice none 0 0) 0 (prs []) := fun v => World.ownsRow_nil _ _ _ _
  cases hsb : srcB f n
  · rw [rnL_f hsb]
    go_enter Try.func17, Try.ntmps17
    go_wp2_with fail
    refine CS.mono ?_
    rintro e w1 ⟨rfl, hb⟩
    rw [hsb]
    go_wp2_with fail
    go_ret
    exact ⟨_, rfl, N0 _, hb⟩
  · by_cases h1 : 1 ≤ k
    · rw [rnL_t hsb h1]
      have ⟨hn, ho⟩ := srcB_le hsb
      have hd : decide (k < 1) = false := by simp; omega
      have CR := fun (v : World) (hb : Below w.heap.size w v) => runsOf_any a n c f k v hn ho (hs.below hb)
      generalize rns f n k = R at *
      go_enter Try.func17, Try.ntmps17
      go_wp2_with fail
      refine CS.mono ?_
      rintro e w1 ⟨rfl, hb⟩
      rw [hsb]
      go_wp2_with fail
      refine (CR _ hb).mono ?_
      rintro e w2 ⟨v, rfl, O, hb2⟩
      go_wp2_with fail
      go_ret
      exact ⟨v, rfl, own_base O hb.size, hb.trans (hb2.mono hb.size)⟩
    · rw [rnL_k h1]
      have hd : decide (k < 1) = true := by simp; omega
      go_enter Try.func17, Try.ntmps17
      go_wp2_with fail
      refine CS.mono ?_
      rintro e w1 ⟨rfl, hb⟩
      rw [hsb]
      go_wp2_with fail
      go_ret
      exact ⟨_, rfl, N0 _, hb⟩
end Go.Proofs.Ytaggohibfghnmaa
