/- The contract of runsOf: the runs, by a loop over the turns. Contracts  -/
import Derived.Maps.AppendAt
import Derived.Test.YtikbjljkakabdaaGreatMB0
import Derived.Test.YtikbjljkakabdaaGreatMB6
import Derived.Test.YtikbjljkakabdaaGreatMB37
import Derived.Test.YtikbjljkakabdaaGreatMB38
namespace Go.Proofs.YtikbjljkakabdaaGreat
open Go.RowKit
open Go.Maps Go.Sort Go.Shelf
set_option linter.unusedVariables false
set_option maxRecDepth 100000
set_option maxHeartbeats 16000000
attribute [local go_sem] Oper.semAt_some
theorem Kp9.alloc {B : Nat} (W : World) (o : Obj) : Kp9 B W (W.alloc o) := Kp9.grown (World.grownBy_alloc W o none) (fun j o e => by cases e)
theorem Kp9.setCell {B : Nat} (W : World) {b : Nat} (hb : b < B) (u : Value) : Kp9 B W (W.setCell ⟨b, 0, none⟩ u) := Kp9.grown (grownBy_setCell' W b u) (fun j o e hj => by cases e; omega)
theorem Kp9.app {B base n : Nat} {W W' : World} {v : Value} {xs : List Value} (hr : W.ownsRow base 47 2 v n xs) (hg : W.grownBy W' v.ownBlock) : Kp9 B W W' := Kp9.grown hg (fun j o e hj ho hk => by
 rcases hr.2 with ⟨rfl, _⟩ | ⟨g, cap, cur, rfl, _, hgb, _⟩
 ·simp [Value.ownBlock] at e
 ·obtain rfl : g = j := by simpa [Value.ownBlock] using e
  rw [hgb] at ho; cases ho
  rcases hk with hk | ⟨cs, hk⟩
  ·cases hk
  ·simp at hk)
def RBx (k : Int) (B : Nat) (s : Bool × Int × List (Int × Int)) (W : World) : Prop :=
 (∃ v, Boxed W (B + 1) 124 v ∧ W.ownsRow B 47 2 v s.2.2.length (prs s.2.2) ∧ True) ∧ Boxed W B 3 (.int .i64 k) ∧ Boxed W (B + 1 + 1) 3 (.int .i64 s.2.1) ∧ Boxed W (B + 1 + 1 + 1) 4 (.bool s.1)
theorem oZ (a : Option Addr) (n c : Nat) (f : Nat → Int × Int) (k : Int) (w : World) (hn : n ≤ 12) (ho : be f n = true) (hs : Src w a n f) :
 CallsIn Fence.wide 7 Tryz.prog 205 #[.slice a n c, .int .i64 k] w fun e w' => ∃ v, e = .returned v ∧ w'.ownsRow w.heap.size 47 2 v (rns f n k).length (prs (rns f n k)) ∧ Below w.heap.size w w' := by
 obtain ⟨i0, hi, hz0, hz1, hz2⟩ := info_parts kI
 obtain ⟨xs, hxs⟩ := nx hn ho
 have hxl : xs.length ≤ 24 := by have := congrArg List.length hxs; rw [gE, cx] at this; have := dH f (2 * n); omega
 refine callsIn_of_wp_marks Tryz.func205 rfl trivial ?_ rfl
 simp only [Tryz.ntmps205, List.size_toArray, List.length_cons, List.length_nil, Nat.reduceAdd, Nat.reduceSub, Array.replicate_succ, Array.replicate_zero, List.push_toArray, List.append_toArray, List.nil_append, List.cons_append]
 have cT := fun (W : World) => qP a n c 6 W
 have hfT : Fence.wide.fn 219 := trivial
 have BK := Boxed.new w 3 (.int .i64 k)
 have BR := Boxed.new (w.alloc (.cells #[.int .i64 k] 3)) 124 (.slice none 0 0)
 have BF := Boxed.new ((w.alloc (.cells #[.int .i64 k] 3)).alloc (.cells #[.slice none 0 0] 124)) 3 (.int .i64 0)
 have BB := Boxed.new (((w.alloc (.cells #[.int .i64 k] 3)).alloc (.cells #[.slice none 0 0] 124)).alloc (.cells #[.int .i64 0] 3)) 4 (.bool false)
 have BL := Boxed.new ((((w.alloc (.cells #[.int .i64 k] 3)).alloc (.cells #[.slice none 0 0] 124)).alloc (.cells #[.int .i64 0] 3)).alloc (.cells #[.bool false] 4)) 124 (.slice a n c)
 simp only [World.size_alloc] at BR BF BB BL
 have BK5 := (((BK.alloc (.cells #[.slice none 0 0] 124)).alloc (.cells #[.int .i64 0] 3)).alloc (.cells #[.bool false] 4)).alloc (.cells #[.slice a n c] 124)
 have BR5 := ((BR.alloc (.cells #[.int .i64 0] 3)).alloc (.cells #[.bool false] 4)).alloc (.cells #[.slice a n c] 124)
 have BF5 := (BF.alloc (.cells #[.bool false] 4)).alloc (.cells #[.slice a n c] 124)
 have BB5 := BB.alloc (.cells #[.slice a n c] 124)
 have B5 : Below w.heap.size w (((((w.alloc (.cells #[.int .i64 k] 3)).alloc (.cells #[.slice none 0 0] 124)).alloc (.cells #[.int .i64 0] 3)).alloc (.cells #[.bool false] 4)).alloc (.cells #[.slice a n c] 124)) := zB
 have hsz5 : (((((w.alloc (.cells #[.int .i64 k] 3)).alloc (.cells #[.slice none 0 0] 124)).alloc (.cells #[.int .i64 0] 3)).alloc (.cells #[.bool false] 4)).alloc (.cells #[.slice a n c] 124)).heap.size = w.heap.size + 1 + 1 + 1 + 1 + 1 := by simp
 clear BK BR BF BB
 gi_wp2_with (gi_at_call 219; refine (cT _).mono ?_; rintro e w' ⟨rfl, rfl⟩)
 (try simp only [World.size_alloc])
 generalize (((((w.alloc (.cells #[.int .i64 k] 3)).alloc (.cells #[.slice none 0 0] 124)).alloc (.cells #[.int .i64 0] 3)).alloc (.cells #[.bool false] 4)).alloc (.cells #[.slice a n c] 124)) = w5 at *
 refine wpIn_rangeFunc_ownG rfl (by omega) (gf := 238) (lb := #[.pointer (some ⟨w.heap.size + 1 + 1 + 1 + 1, 0, none⟩)]) rfl trivial (enters_of Tryz.func238 (by kernel_rfl) rfl)
  (lW (w.heap.size + 1 + 1 + 1 + 1) w5.heap.size a n c f xs w5 hn ho hxs (Nat.le_refl _) BL.cell (by omega) (hs.below B5)) (fun h1 h2 => Kp9.trans h1 h2) (fun W l o o' _ h1 h2 h3 => Kp9.put o' h1 h2 h3) (Below.refl _ _) (fun _ => rfl)
  (fun pre W => RBx k w.heap.size (rst k (bZ pre)) W ∧ Below w.heap.size w W)
  (fun _ _ _ => False)
  (OwnFrom.and (OwnFrom.and (Own.from (holdsRow_own w.heap.size (w.heap.size + 1) 124 47 2 (fun pre => (rst k (bZ pre)).2.2.length) (fun pre => prs (rst k (bZ pre)).2.2) (fun pre v => True)) _) (OwnFrom.and (Own.from (boxed_own w.heap.size 3 (fun _ => .int .i64 k)) _) (OwnFrom.and (Own.from (boxed_own (w.heap.size + 1 + 1) 3 (fun pre => .int .i64 (rst k (bZ pre)).2.1)) _) (Own.from (boxed_own (w.heap.size + 1 + 1 + 1) 4 (fun pre => .bool (rst k (bZ pre)).1)) _)))) (ownFrom_below (Nat.le_refl _) (by omega)))
  (fun _ _ _ _ _ hs _ _ => hs)
  ⟨⟨⟨_, BR5, World.ownsRow_nil _ _ _ _, trivial⟩, BK5, BF5, BB5⟩, B5⟩
  (fun x => { tmps := #[.slice a n c, .int .i64 k, undef, .pointer (some ⟨w.heap.size, 0, none⟩), .slice none 0 0, .pointer (some ⟨w.heap.size + 1, 0, none⟩), .pointer (some ⟨w.heap.size + 1 + 1, 0, none⟩), .pointer (some ⟨w.heap.size + 1 + 1 + 1, 0, none⟩), .int .i64 x.1.1, .int .i64 x.1.2, .slice a n c, .func (.func 238) #[] #[.pointer (some ⟨w.heap.size + 1 + 1 + 1 + 1, 0, none⟩)], .int .i64 x.1.1, .int .i64 x.1.2, undef, undef, undef, undef, undef, undef, undef, undef, undef, undef, undef, undef, undef, undef, undef, undef, undef, undef, undef, undef, undef, undef, undef, undef], defers := [] }) ?assign ?body ?done ?stop
 case assign =>
  intro l x W K hK
  gi_wp2
  exact hK
 case body =>
  rintro l pre x W ⟨⟨⟨v, hv, hrow, -⟩, hk, hf, hb⟩, hB⟩ hlt
  have HE : Hid (rst k (bZ (pre ++ [x])) = bf k (rst k (bZ pre)) x.1) := by rw [Hid, qQ, dE]
  have hl := jo k (bZ pre)
  rw [gE] at hl
  obtain ⟨⟨p, cv⟩, ⟨hp1, hp2⟩, hc1, hc2⟩ := x
  simp only at hp1 hp2 hc1 hc2 HE ⊢
  generalize rst k (bZ pre) = s at *
  obtain ⟨s1, s2, s3⟩ := s
  simp only at hrow hf hb hl
  have ck := hk.cell
  have cf := hf.cell
  have cb := hb.cell
  have cr := hv.cell
  have ff := hf.frozen
  have fb := hb.frozen
  have hne1 : w.heap.size + 1 + 1 ≠ w.heap.size + 1 + 1 + 1 := by omega
  have hne2 : w.heap.size + 1 ≠ w.heap.size + 1 + 1 := by omega
  have hne3 : w.heap.size + 1 ≠ w.heap.size + 1 + 1 + 1 := by omega
  have hne4 : w.heap.size ≠ w.heap.size + 1 + 1 := by omega
  have hne5 : w.heap.size ≠ w.heap.size + 1 + 1 + 1 := by omega
  by_cases hcv : k ≤ cv
  ·have hd1 : decide (cv < k) = false := by simp; omega
   have hd2 : decide (k ≤ cv) = true := by simpa using hcv
   cases s1
   ·have E : Hid (rst k (bZ (pre ++ [⟨(p, cv), ⟨hp1, hp2⟩, hc1, hc2⟩])) = (true, p, s3)) := by rw [Hid, HE.out]; simp [bf, hcv]
    have R1 := fy (fy hrow (k := w.heap.size + 1 + 1) (fun g hg e => (hf.not_row (by decide) hrow) (by rw [hg, e])) 0 (.int .i64 p)) (k := w.heap.size + 1 + 1 + 1) (fun g hg e => (hb.not_row (by decide) hrow) (by rw [hg, e])) 0 (.bool true)
    have V1 := (hv.other hne2 (.int .i64 p)).other hne3 (.bool true)
    have K1 := (hk.other hne4 (.int .i64 p)).other hne5 (.bool true)
    have F1 := (hf.set (.int .i64 p)).other hne1 (.bool true)
    have B1 := (hb.other (Ne.symm hne1) (.int .i64 p)).set (.bool true)
    have fb1 := (hb.other (Ne.symm hne1) (.int .i64 p)).cell
    have fz1 := (hb.other (Ne.symm hne1) (.int .i64 p)).frozen
    have BB1 := (hB.setCell (p := ⟨w.heap.size + 1 + 1, 0, none⟩) (by simp; omega) (.int .i64 p)).setCell (p := ⟨w.heap.size + 1 + 1 + 1, 0, none⟩) (by simp; omega) (.bool true)
    have P1 : Kp9 w5.heap.size W ((W.setCell ⟨w.heap.size + 1 + 1, 0, none⟩ (.int .i64 p)).setCell ⟨w.heap.size + 1 + 1 + 1, 0, none⟩ (.bool true)) := (Kp9.setCell W (by omega) _).trans (Kp9.setCell _ (by omega) _)
    have Q1 : KeepsFrom w5.heap.size W ((W.setCell ⟨w.heap.size + 1 + 1, 0, none⟩ (.int .i64 p)).setCell ⟨w.heap.size + 1 + 1 + 1, 0, none⟩ (.bool true)) := ((KeepsOthers.setCell W _ _).trans (KeepsOthers.setCell _ _ _)).from _
    gi_wp2
    exact ⟨Q1, P1, ⟨⟨v, V1, by rw [E.out]; exact R1, trivial⟩, K1, by rw [E.out]; exact F1, by rw [E.out]; exact B1⟩, BB1⟩
   ·have E : Hid (rst k (bZ (pre ++ [⟨(p, cv), ⟨hp1, hp2⟩, hc1, hc2⟩])) = (true, s2, s3)) := by rw [Hid, HE.out]; simp [bf]; omega
    gi_wp2
    exact ⟨KeepsFrom.refl _ _, Kp9.refl _ _, ⟨⟨v, hv, by rw [E.out]; exact hrow, trivial⟩, hk, by rw [E.out]; exact hf, by rw [E.out]; exact hb⟩, hB⟩
  ·have hd1 : decide (cv < k) = true := by simp; omega
   have hd2 : decide (k ≤ cv) = false := by simpa using hcv
   cases s1
   ·have E : Hid (rst k (bZ (pre ++ [⟨(p, cv), ⟨hp1, hp2⟩, hc1, hc2⟩])) = (false, s2, s3)) := by rw [Hid, HE.out]; simp [bf]; omega
    gi_wp2
    exact ⟨KeepsFrom.refl _ _, Kp9.refl _ _, ⟨⟨v, hv, by rw [E.out]; exact hrow, trivial⟩, hk, by rw [E.out]; exact hf, by rw [E.out]; exact hb⟩, hB⟩
   ·have E : Hid (rst k (bZ (pre ++ [⟨(p, cv), ⟨hp1, hp2⟩, hc1, hc2⟩])) = (false, s2, s3 ++ [(s2, p - 1)])) := by rw [Hid, HE.out]; simp [bf]; omega
    have hBs := hB.size
    gi_wp2_with (gi_at_builtin; refine wpListIn_append_own _ rfl _ _ 124 rfl w.heap.size 47 i0 (.agg #[.int .i64 0, .int .i64 0]) 2 16 Tryz.underlying124 hi hz0 hz1 hz2 rfl (by decide) _ _ _ rfl (hrow.alloc _) ⟨W.heap.size, 0, none⟩ 1 1 [.int .i64 s2, .int .i64 (p - 1)] rfl rfl (fun j u hj => jh W _ _ 47 j u hj) (by intro u hu; simp at hu; rcases hu with rfl | rfl <;> rfl) (by unfold maxLen; omega) (by omega) (by simp; omega) ?_; intro v' w1 hown' hgrow _; obtain ⟨g', cap', rfl⟩ := ownsRow_succ hown'; obtain ⟨hv1, hv2, hr2, hk2, hb2⟩ := hv.appended (by decide) hrow hBs (Nat.le_succ _) hown' hgrow; have hc1' := hv1.cell; have hf1' := hv1.frozen; (have nk := hk.not_row (by decide) hrow); (have nf := hf.not_row (by decide) hrow); (have nb := hb.not_row (by decide) hrow); (have hk1 := ((hk.alloc _).kept hgrow nk).other (B' := w.heap.size + 1) (by omega) (.slice (some ⟨g', 0, none⟩) (s3.length + 1) cap')); (have hf1 := ((hf.alloc _).kept hgrow nf).other (B' := w.heap.size + 1) (by omega) (.slice (some ⟨g', 0, none⟩) (s3.length + 1) cap')); (have hb1 := ((hb.alloc _).kept hgrow nb).other (B' := w.heap.size + 1) (by omega) (.slice (some ⟨g', 0, none⟩) (s3.length + 1) cap')); (have KP1 : Kp9 w5.heap.size W (w1.setCell ⟨w.heap.size + 1, 0, none⟩ (.slice (some ⟨g', 0, none⟩) (s3.length + 1) cap')) := ((Kp9.alloc W _).trans (Kp9.app (hrow.alloc _) hgrow)).trans (Kp9.setCell _ (by omega) _)); have cb1 := hb1.cell; have fb1 := hb1.frozen)
    have R3 : ((w1.setCell ⟨w.heap.size + 1, 0, none⟩ (.slice (some ⟨g', 0, none⟩) (s3.length + 1) cap')).setCell ⟨w.heap.size + 1 + 1 + 1, 0, none⟩ (.bool false)).ownsRow w.heap.size 47 2 (.slice (some ⟨g', 0, none⟩) (s3.length + 1) cap') (s3 ++ [(s2, p - 1)]).length (prs (s3 ++ [(s2, p - 1)])) := by
     have := fy hr2 (k := w.heap.size + 1 + 1 + 1) (fun g hg e => (hb1.not_row (by decide) hr2) (by rw [hg, e])) 0 (.bool false)
     rw [jj]; simpa using this
    have P3 := KP1.trans (Kp9.setCell (B := w5.heap.size) (w1.setCell ⟨w.heap.size + 1, 0, none⟩ (.slice (some ⟨g', 0, none⟩) (s3.length + 1) cap')) (b := w.heap.size + 1 + 1 + 1) (by omega) (.bool false))
    rw [hsz5] at P3
    exact ⟨(hk2.trans (KeepsOthers.setCell _ _ _)).from _, P3, ⟨⟨_, hv2.other hne3 _, by rw [E.out]; exact R3, trivial⟩, hk1.other hne5 _, by rw [E.out]; exact hf1.other hne1 _, by rw [E.out]; exact hb1.set _⟩, (hB.trans hb2).setCell (p := ⟨w.heap.size + 1 + 1 + 1, 0, none⟩) (by simp; omega) _⟩
 case done =>
  rintro D ys W hD rfl ⟨⟨⟨v, hv, hrow, -⟩, hk, hf, hb⟩, hB⟩ hK
  have hc := hv.cell
  rw [hxs] at hrow
  gi_wp2
  refine ⟨by simp, .inl ⟨_, _, rfl, run_takeDeferred hK, ?_⟩⟩
  exact ⟨_, results_tmp rfl _ _ _, v, rfl, ownsRow_putObj hrow _ hK rfl, hB.trans (belowK_b (w := w) (Nat.le_refl _) W D _ _ (by omega) hK rfl rfl)⟩
 case stop =>
  rintro D c pre W _ _ h _
  exact h.elim
theorem mP (a : Option Addr) (n c : Nat) (f : Nat → Int × Int) (k : Int) (w : World) (hn : n ≤ 12) (ho : be f n = true) (hs : Src w a n f) :
 Calls Tryz.prog 205 #[.slice a n c, .int .i64 k] w fun e w' => ∃ v, e = .returned v ∧ w'.ownsRow w.heap.size 47 2 v (rns f n k).length (prs (rns f n k)) ∧ Below w.heap.size w w' :=
 (callsIn_wide (n := 7)).1 (oZ a n c f k w hn ho hs)
theorem i6 (a : Option Addr) (n c : Nat) (f : Nat → Int × Int) (k : Int) (w : World) (hm : n ≤ maxLen) (hs : Src w a n f) :
 Calls Tryz.prog 181 #[.slice a n c, .int .i64 k] w fun e w' => ∃ v, e = .returned v ∧ w'.ownsRow w.heap.size 47 2 v (rnL f n k).length (prs (rnL f n k)) ∧ Below w.heap.size w w' := by
 have CS := aO a n c f w hm hs
 have N0 : ∀ (v : World), v.ownsRow w.heap.size 47 2 (.slice none 0 0) 0 (prs []) := fun v => World.ownsRow_nil _ _ _ _
 cases hsb : ba f n
 ·rw [rnL_f hsb]
  go_enter Tryz.func181, Tryz.ntmps181
  go_wp2_with fail
  refine CS.mono ?_
  rintro e w1 ⟨rfl, hb⟩
  rw [hsb]
  go_wp2_with fail
  go_ret
  exact ⟨_, rfl, N0 _, hb⟩
 ·by_cases h1 : 1 ≤ k
  ·rw [rT hsb h1]
   have ⟨hn, ho⟩ := bC hsb
   have hd : decide (k < 1) = false := by simp; omega
   have CR := fun (v : World) (hb : Below w.heap.size w v) => mP a n c f k v hn ho (hs.below hb)
   generalize rns f n k = R at *
   go_enter Tryz.func181, Tryz.ntmps181
   go_wp2_with fail
   refine CS.mono ?_
   rintro e w1 ⟨rfl, hb⟩
   rw [hsb]
   go_wp2_with fail
   refine (CR _ hb).mono ?_
   rintro e w2 ⟨v, rfl, O, hb2⟩
   go_wp2_with fail
   go_ret
   exact ⟨v, rfl, qx O hb.size, hb.trans (hb2.mono hb.size)⟩
  ·rw [rnL_k h1]
   have hd : decide (k < 1) = true := by simp; omega
   go_enter Tryz.func181, Tryz.ntmps181
   go_wp2_with fail
   refine CS.mono ?_
   rintro e w1 ⟨rfl, hb⟩
   rw [hsb]
   go_wp2_with fail
   go_ret
   exact ⟨_, rfl, N0 _, hb⟩
end Go.Proofs.YtikbjljkakabdaaGreat
namespace Go.Proofs.YtikbjljkakabdaaGreat
open Go.RowKit
set_option linter.unusedVariables false
set_option maxRecDepth 100000
set_option maxHeartbeats 16000000
def Vb (w : World) (j : Nat) (x y : Int) : Prop := j < w.heap.size ∧ w.cell? ⟨j, 0, none⟩ = some (.int .i64 x) ∧ w.cell? ⟨j, 1, none⟩ = some (.int .i64 y) ∧ w.frozen? ⟨j, 0, none⟩ = false ∧ w.frozen? ⟨j, 1, none⟩ = false
theorem Vb.new (w : World) (x y : Int) (T : TypeId) : Vb (w.alloc (.cells #[.int .i64 x, .int .i64 y] T)) w.heap.size x y := ⟨by simp, by simp, by simp, by simp, by simp⟩
theorem Vb.belowB {w w' : World} {B j : Nat} {x y : Int} (h : Vb w j x y) (hb : Below B w w') (hj : j < B) : Vb w' j x y := by
 obtain ⟨h0, h1, h2, h3, h4⟩ := h
 exact ⟨Nat.lt_of_lt_of_le h0 hb.size, by rw [hb.cell (p := ⟨j, 0, none⟩) hj]; exact h1, by rw [hb.cell (p := ⟨j, 1, none⟩) hj]; exact h2, by rw [hb.frozen (p := ⟨j, 0, none⟩) hj]; exact h3, by rw [hb.frozen (p := ⟨j, 1, none⟩) hj]; exact h4⟩
theorem Vb.below {w w' : World} {j : Nat} {x y : Int} (h : Vb w j x y) (hb : Below w.heap.size w w') : Vb w' j x y := h.belowB hb h.1
theorem Vb.drew {w : World} {j : Nat} {x y : Int} (h : Vb w j x y) : Vb w.drew j x y := h
def qE (w : World) (j : Nat) (x y : Int) : World := (w.setCell ⟨j, 0, none⟩ (.int .i64 x)).setCell ⟨j, 1, none⟩ (.int .i64 y)
theorem Vb.put {w : World} {j : Nat} {x y : Int} (h : Vb w j x y) (p q : Int) : Vb (qE w j p q) j p q := by
 obtain ⟨h0, h1, h2, h3, h4⟩ := h
 have e1 : (w.setCell ⟨j, 0, none⟩ (.int .i64 p)).cell? ⟨j, 1, none⟩ = some (.int .i64 y) := (zO (by simp)).trans h2
 exact ⟨by simpa [qE] using h0, (zO (by simp)).trans (World.cell?_setCell_same _ _ _ h1), World.cell?_setCell_same _ _ _ e1, by simpa [qE] using h3, by simpa [qE] using h4⟩
theorem Below.put2 {B : Nat} {a w : World} (h : Below B a w) {j : Nat} (hj : B ≤ j) (p q : Int) : Below B a (qE w j p q) := (h.setCell (p := ⟨j, 0, none⟩) hj _).setCell (p := ⟨j, 1, none⟩) hj _
def hlB (L : List (Int × Int)) : Bool := decide (0 < L.length)
def hlL (L : List (Int × Int)) : Int := (L.getD 0 (0, 0)).1
def hlH (L : List (Int × Int)) : Int := (L.getD (L.length - 1) (0, 0)).2
section
variable {L : List (Int × Int)}
theorem pE (h : L.Pairwise (fun a b => a.2 + 1 < b.1)) {i j : Nat} (hij : i < j) (hj : j < L.length) : (L.getD i (0, 0)).2 + 1 < (L.getD j (0, 0)).1 := by
 have := List.pairwise_iff_getElem.1 h i j (by omega) hj hij
 have hi : i < L.length := by omega
 simpa [hi, hj] using this
theorem ld (h : ∀ r, r ∈ L → okI r.1 r.2 = true) {i : Nat} (hi : i < L.length) : okI (L.getD i (0, 0)).1 (L.getD i (0, 0)).2 = true := by
 have := h L[i] (List.getElem_mem hi)
 simpa [hi] using this
theorem nE (ha : L.Pairwise (fun a b => a.2 + 1 < b.1)) (ho : ∀ r, r ∈ L → okI r.1 r.2 = true) : ∀ {k : Nat}, k < L.length → acc aU imn imx (fun i => L.getD i (0, 0)) k = (true, (L.getD 0 (0, 0)).1, (L.getD k (0, 0)).2)
 | 0, hk => by
  have := ld ho hk
  simp only [acc]
  rw [this]; rfl
 | k + 1, hk => by
  have ih := nE ha ho (k := k) (by omega)
  rw [jU ih]
  have o0 := bF (ld ho (i := 0) (by omega))
  have o1 := bF (ld ho (i := k) (by omega))
  have o2 := bF (ld ho hk)
  have h1 := pE ha (i := k) (j := k + 1) (by omega) hk
  have h0 : (L.getD 0 (0, 0)).1 ≤ (L.getD k (0, 0)).1 := by
   by_cases e : k = 0
   ·subst e; exact Int.le_refl _
   ·have := pE ha (i := 0) (j := k) (by omega) (by omega); omega
  have hj : aU (L.getD 0 (0, 0)).1 (L.getD k (0, 0)).2 (L.getD (k + 1) (0, 0)).1 (L.getD (k + 1) (0, 0)).2 = true := by
   simp only [aU, aY, Bool.and_eq_true]
   exact ⟨decide_eq_true (by omega), ld ho hk⟩
  simp only [hj, bo]
  rw [rL (by omega), p8 (by omega)]
theorem pC (ha : L.Pairwise (fun a b => a.2 + 1 < b.1)) (ho : ∀ r, r ∈ L → okI r.1 r.2 = true) (hl : L.length ≤ 64) : eX aU imn imx (fun i => L.getD i (0, 0)) L.length = (hlB L, hlL L, hlH L) := by
 by_cases h : 0 < L.length
 ·rw [nG ⟨h, hl⟩, nE ha ho (by omega)]
  simp [hlB, hlL, hlH, h]
 ·have : L = [] := List.length_eq_zero_iff.1 (by omega)
  subst this
  rw [jX (by simp)]; rfl
end
theorem qF (f : Nat → Int × Int) (n : Nat) (k : Int) : (rnL f n k).Pairwise (fun a b => a.2 + 1 < b.1) ∧ (∀ r, r ∈ rnL f n k → okI r.1 r.2 = true) ∧ (rnL f n k).length ≤ 24 := by
 unfold rnL
 split
 ·next h =>
  have ⟨h1, h2⟩ := bC h.1
  have := ro f n k
  exact ⟨(qG h2).1, (qG h2).2, by omega⟩
 ·exact ⟨List.Pairwise.nil, fun r hr => by simp at hr, by simp⟩
theorem dt (a : Option Addr) (n c : Nat) (f : Nat → Int × Int) (k : Int) (w : World) (hm : n ≤ maxLen) (hs : Src w a n f) :
 Calls Tryz.prog 147 #[.slice a n c, .int .i64 k] w fun e w' => e = .returned (.tuple #[.agg #[.int .i64 (hlL (rnL f n k)), .int .i64 (hlH (rnL f n k))], .bool (hlB (rnL f n k))]) ∧ Below w.heap.size w w' := by
 have B0 := Below.al9 w (.cells #[.int .i64 0, .int .i64 0] 47)
 have N0 := Vb.new w 0 0 47
 have CR := i6 a n c f k (w.alloc (.cells #[.int .i64 0, .int .i64 0] 47)) hm (hs.below B0)
 obtain ⟨h1, h2, h3⟩ := qF f n k
 have CJ := fun (v : World) (a' : Option Addr) (c' : Nat) (hc : (rnL f n k).length ≤ c') (hcm : c' ≤ maxLen) (h : Src v a' (rnL f n k).length (fun i => (rnL f n k).getD i (0, 0))) => i4 a' (rnL f n k).length c' (fun i => (rnL f n k).getD i (0, 0)) v hc hcm h
 rw [pC h1 h2 (by omega)] at CJ
 simp only at CJ
 generalize rnL f n k = L at *
 generalize hlL L = lo at *
 generalize hlH L = hi at *
 generalize hlB L = bb at *
 clear h1 h2
 go_enter Tryz.func147, Tryz.ntmps147
 go_wp2_with fail
 refine CR.mono ?_
 rintro e w1 ⟨v, rfl, O, hb⟩
 have B1 := B0.trans (hb.mono B0.size)
 have N1 := N0.below hb
 obtain ⟨a1, c1, rfl, hc1, hcm, S1⟩ := fz O
 have HS1 : Hid (Src w1 a1 L.length fun i => L.getD i (0, 0)) := S1
 clear hb O S1 B0 N0
 go_wp2_with fail
 refine (CJ _ _ _ hc1 hcm HS1.out).mono ?_
 rintro e w2 ⟨rfl, hb⟩
 have B2 := B1.trans (hb.mono B1.size)
 have N2 := N1.below hb
 clear hb B1 N1
 have B3 := Below.put2 B2 (Nat.le_refl _) lo hi
 have N3 := N2.put lo hi
 obtain ⟨n0, n1, n2, n3, n4⟩ := N2
 go_wp2_with fail
 change Below _ _ ((w2.setCell ⟨w.heap.size, 0, none⟩ (.int .i64 lo)).setCell ⟨w.heap.size, 1, none⟩ (.int .i64 hi)) at B3
 change Vb ((w2.setCell ⟨w.heap.size, 0, none⟩ (.int .i64 lo)).setCell ⟨w.heap.size, 1, none⟩ (.int .i64 hi)) _ _ _ at N3
 generalize ((w2.setCell ⟨w.heap.size, 0, none⟩ (.int .i64 lo)).setCell ⟨w.heap.size, 1, none⟩ (.int .i64 hi)) = w3 at *
 obtain ⟨m0, m1, m2, m3, m4⟩ := N3
 exact bodyPost_ret (v := .tuple #[.agg #[.int .i64 lo, .int .i64 hi], .bool bb]) (by simp (maxDischargeDepth := 6) [results, Tryz.results147, go_sem, m1, m2]) rfl ⟨rfl, B3⟩
theorem q7 {L : List (Int × Int)} (h : L.length = 0) : hlB L = false ∧ hlL L = 0 ∧ hlH L = 0 := by
 have : L = [] := List.length_eq_zero_iff.1 h
 subst this; exact ⟨rfl, rfl, rfl⟩
theorem q8 {L : List (Int × Int)} (h : 0 < L.length) : hlB L = true := by simp [hlB, h]
theorem dx (a : Option Addr) (n c : Nat) (f : Nat → Int × Int) (k : Int) (w : World) (hm : n ≤ maxLen) (hs : Src w a n f) :
 Calls Tryz.prog 103 #[.slice a n c, .int .i64 k] w fun e w' => e = .returned (.tuple #[.agg #[.int .i64 (hlL (rnL f n k)), .int .i64 (hlH (rnL f n k))], .bool (hlB (rnL f n k))]) ∧ Below w.heap.size w w' := by
 have B0 := Below.al9 w (.cells #[.int .i64 0, .int .i64 0] 47)
 have N0 := Vb.new w 0 0 47
 have CR := jv a n c f k (w.alloc (.cells #[.int .i64 0, .int .i64 0] 47)) hm (hs.below B0)
 obtain ⟨h1, h2, h3⟩ := qF f n k
 generalize rnL f n k = L at *
 clear h1 h2
 by_cases h0 : L.length = 0
 ·obtain ⟨e1, e2, e3⟩ := q7 h0
  rw [e1, e2, e3]
  go_enter Tryz.func103, Tryz.ntmps103
  go_wp2_with fail
  refine CR.mono ?_
  rintro e w1 ⟨v, rfl, O, hb⟩
  have B1 := B0.trans (hb.mono B0.size)
  have N1 := N0.below hb
  obtain ⟨a1, c1, rfl, hc1, hcm, -⟩ := fz O
  rw [h0]
  clear hb O B0 N0 hc1
  have B3 := Below.put2 B1 (Nat.le_refl _) 0 0
  have N3 := N1.put 0 0
  obtain ⟨n0, n1, n2, n3, n4⟩ := N1
  go_wp2_with fail
  change Below _ _ ((w1.setCell ⟨w.heap.size, 0, none⟩ (.int .i64 0)).setCell ⟨w.heap.size, 1, none⟩ (.int .i64 0)) at B3
  change Vb ((w1.setCell ⟨w.heap.size, 0, none⟩ (.int .i64 0)).setCell ⟨w.heap.size, 1, none⟩ (.int .i64 0)) _ _ _ at N3
  generalize ((w1.setCell ⟨w.heap.size, 0, none⟩ (.int .i64 0)).setCell ⟨w.heap.size, 1, none⟩ (.int .i64 0)) = w3 at *
  obtain ⟨m0, m1, m2, m3, m4⟩ := N3
  exact bodyPost_ret (v := .tuple #[.agg #[.int .i64 0, .int .i64 0], .bool false]) (by simp (maxDischargeDepth := 6) [results, Tryz.results103, go_sem, m1, m2]) rfl ⟨rfl, B3⟩
 ·have e1 := q8 (L := L) (by omega)
  rw [e1]
  obtain ⟨q, hq⟩ : ∃ q, L.length = q + 1 := ⟨L.length - 1, by omega⟩
  have hE1 : Hid ((L.getD 0 (0, 0)).1 = hlL L) := rfl
  have hE2 : Hid ((L.getD q (0, 0)).2 = hlH L) := by rw [Hid, hlH, hq]; rfl
  generalize hlL L = lo at *
  generalize hlH L = hi at *
  go_enter Tryz.func103, Tryz.ntmps103
  go_wp2_with fail
  refine CR.mono ?_
  rintro e w1 ⟨v, rfl, O, hb⟩
  have B1 := B0.trans (hb.mono B0.size)
  have N1 := N0.below hb
  obtain ⟨a1, c1, rfl, hc1, hcm, S1⟩ := fz O
  rcases S1 with h | ⟨b, off, rfl, hp⟩
  ·omega
  have c0 : w1.cell? ⟨b, off, none⟩ = some (.int .i64 lo) := by have := (hp.2 0 (by omega)).1; rw [hE1.out] at this; simpa using this
  have c9 : w1.cell? ⟨b, off + q * 2 + 1, none⟩ = some (.int .i64 hi) := by have := (hp.2 q (by omega)).2; rw [hE2.out] at this; exact this
  rw [hq]
  have hbl := hp.1
  have hne : ((q + 1 : Nat) : Int) ≠ 0 := by omega
  have hqz : (((q + 1 : Nat) : Int) == 0) = false := by rw [beq_eq_false_iff_ne]; exact hne
  have hneb : b ≠ w.heap.size := fun e => by have := O.lt b rfl; simp at this; omega
  clear hp hb O B0 N0 hc1 hE1 hE2 e1
  have B3 : Below w.heap.size w ((w1.setCell ⟨w.heap.size, 0, none⟩ (.int .i64 lo)).setCell ⟨w.heap.size, 1, none⟩ (.int .i64 hi)).drew := Below.drew (Below.put2 B1 (Nat.le_refl _) lo hi)
  have N3 : Vb ((w1.setCell ⟨w.heap.size, 0, none⟩ (.int .i64 lo)).setCell ⟨w.heap.size, 1, none⟩ (.int .i64 hi)).drew w.heap.size lo hi := (N1.put lo hi).drew
  obtain ⟨n0, n1, n2, n3, n4⟩ := N1
  go_wp2_with fail
  go_region
  generalize ((w1.setCell ⟨w.heap.size, 0, none⟩ (.int .i64 lo)).setCell ⟨w.heap.size, 1, none⟩ (.int .i64 hi)).drew = w3 at *
  obtain ⟨m0, m1, m2, m3, m4⟩ := N3
  go_wp2_with fail
  exact bodyPost_ret (v := .tuple #[.agg #[.int .i64 lo, .int .i64 hi], .bool true]) (by simp (maxDischargeDepth := 6) [results, Tryz.results103, go_sem, m1, m2]) rfl ⟨rfl, B3⟩
end Go.Proofs.YtikbjljkakabdaaGreat
