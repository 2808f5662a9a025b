/- What CountWhen and TimeWhen come to. -/
import Derived.Test.YtdgfneloaopleaaN1
import Derived.WalkKit
import Derived.WalkSpells
import Derived.WalkLawsBesides
import Derived.Deep.RegionHeld
namespace Go.Proofs.Ytdgfneloaopleaa
open Go.RowKit
set_option linter.unusedVariables false
def cwB (n d : Int) (f : Nat → Int × Int) (m : Nat) (x : Int) : Bool := mrB n d f m 1 && whB (ctB n d) (fun x => upI (x * (d - n)) d) (fun x => dnI (x * (d + n)) d) (t1 f) (t2 f) x m
def cwL (n d : Int) (f : Nat → Int × Int) (m : Nat) (x : Int) : Int := whLo (fun x => upI (x * (d - n)) d) (fun x => dnI (x * (d + n)) d) (t1 f) (t2 f) x m
def cwH (n d : Int) (f : Nat → Int × Int) (m : Nat) (x : Int) : Int := whHi (fun x => upI (x * (d - n)) d) (fun x => dnI (x * (d + n)) d) (t1 f) (t2 f) x m
def twB (n d : Int) (f : Nat → Int × Int) (m : Nat) (x : Int) : Bool := mrB n d f m 1 && whB (btB n d) (fun x => upI (x * d) (d + n)) (fun x => dnI (x * d) (d - n)) (t2 f) (t1 f) x m
def twL (n d : Int) (f : Nat → Int × Int) (m : Nat) (x : Int) : Int := whLo (fun x => upI (x * d) (d + n)) (fun x => dnI (x * d) (d - n)) (t2 f) (t1 f) x m
def twH (n d : Int) (f : Nat → Int × Int) (m : Nat) (x : Int) : Int := whHi (fun x => upI (x * d) (d + n)) (fun x => dnI (x * d) (d - n)) (t2 f) (t1 f) x m
section
variable {B2 : Int → Bool} {Lf Mf : Int → Int} {g h : Nat → Int} {x : Int} {m I : Nat}
theorem whLo_last (hI : lastLe g x m = I) (hl : I + 1 = m) : whLo Lf Mf g h x m = h I + Lf (x - g I) := by simp only [whLo, hI, if_pos hl]
theorem whHi_last (hI : lastLe g x m = I) (hl : I + 1 = m) : whHi Lf Mf g h x m = h I + Mf (x - g I) := by simp only [whHi, hI, if_pos hl]
theorem whLo_next (hI : lastLe g x m = I) (hl : ¬ I + 1 = m) : whLo Lf Mf g h x m = imx (h I + Lf (x - g I)) (h (I + 1) - Mf (g (I + 1) - x)) := by simp only [whLo, hI, if_neg hl]
theorem whHi_next (hI : lastLe g x m = I) (hl : ¬ I + 1 = m) : whHi Lf Mf g h x m = imn (h I + Mf (x - g I)) (h (I + 1) - Lf (g (I + 1) - x)) := by simp only [whHi, hI, if_neg hl]
theorem whB_a (hI : lastLe g x m = I) (ha : B2 (x - g I) = false) : whB B2 Lf Mf g h x m = false := by simp only [whB, hI, ha, Bool.and_false, Bool.false_and]
theorem whB_b (hI : lastLe g x m = I) (hl : ¬ I + 1 = m) (hb : B2 (g (I + 1) - x) = false) : whB B2 Lf Mf g h x m = false := by simp only [whB, hI, hb, hl, decide_false, Bool.or_false, Bool.and_false, Bool.false_and]
theorem whB_c (hc : ¬ whLo Lf Mf g h x m ≤ whHi Lf Mf g h x m) : whB B2 Lf Mf g h x m = false := by simp only [whB, hc, decide_false, Bool.and_false]
theorem whB_last (hi : inB g x m = true) (hI : lastLe g x m = I) (hl : I + 1 = m) (ha : B2 (x - g I) = true) (hc : whLo Lf Mf g h x m ≤ whHi Lf Mf g h x m) : whB B2 Lf Mf g h x m = true := by simp only [whB, hi, hI, ha, hl, hc, decide_true, Bool.true_or, Bool.and_self]
theorem whB_next (hi : inB g x m = true) (hI : lastLe g x m = I) (hl : ¬ I + 1 = m) (ha : B2 (x - g I) = true) (hb : B2 (g (I + 1) - x) = true) (hc : whLo Lf Mf g h x m ≤ whHi Lf Mf g h x m) : whB B2 Lf Mf g h x m = true := by simp only [whB, hi, hI, ha, hb, hc, decide_true, Bool.or_true, Bool.and_self]
end
theorem lt_le {n d x : Int} (h : okD n d = true) (ht : okT x = true) : upI (x * d) (d + n) ≤ x ∧ x ≤ dnI (x * d) (d - n) := by
  have ⟨d1, d2, d3, d4⟩ := okD_t h
  have ⟨t1, t2⟩ := okT_t ht
  exact ⟨le_upI (by omega) (Int.mul_le_mul_of_nonneg_left (by omega) t1), dnI_le (by omega) (Int.mul_le_mul_of_nonneg_left (by omega) t1)⟩
end Go.Proofs.Ytdgfneloaopleaa
