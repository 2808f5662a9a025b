/- Contracts of the functions of chapter 1 (intervals) in the specification and in the program, and the walks of its first exact laws. Contracts of the helpers of chapter 1 (told intervals, least and greatest, meet and join). Contracts of Apart and Middle. A cell elsewhere stays. AppOk and AppRead in the specification. Looks and readings, one by one. AppRun in the specification. The program: a clock, a look, a reading; what a reading comes to. -/
import Derived.Test.YtfhappkeipcemaaGreatRows
import Derived.WalkKit
import Derived.WalkSpells
import Derived.WalkLawsBesides
import Derived.Deep.RegionHeld
import Derived.Deep.QuietTactic
import Derived.BigQuiet
import Derived.Deep.OwnRows
import Derived.Laws.BytesArg
import Derived.Deep.RegionHeld3
import Derived.Deep.DeepCutAuto
import Derived.Deep.DeepAppendRoom
import Derived.Test.YtfhappkeipcemaaGreatM0
import Derived.Test.YtfhappkeipcemaaGreatM1
import Derived.Test.YtfhappkeipcemaaGreatM2
import Derived.Test.YtfhappkeipcemaaGreatM3
import Derived.Test.YtfhappkeipcemaaGreatM6
import Derived.Test.YtfhappkeipcemaaGreatM7
namespace Go.Proofs.YtfhappkeipcemaaGreat
open Go.RowKit
set_option linter.unusedVariables false
theorem ret_int {k : IntKind} {a b : Int} (h : a = b) : Ending.returned (.int k a) = .returned (.int k b) := by rw [h]
theorem okI_t {lo hi : Int} (h : okI lo hi = true) : lo ≤ hi ∧ -1000000000000 ≤ lo ∧ hi ≤ 1000000000000 := of_decide_eq_true h
end Go.Proofs.YtfhappkeipcemaaGreat
namespace Go.Proofs.YtfhappkeipcemaaGreat
open Go.RowKit
set_option linter.unusedVariables false
def imn (x y : Int) : Int := if y < x then y else x
def imx (x y : Int) : Int := if y < x then x else y
theorem imn_l {x y : Int} (h : y < x) : imn x y = y := by simp [imn, h]
theorem imn_g {x y : Int} (h : ¬ y < x) : imn x y = x := by simp [imn, h]
theorem imx_l {x y : Int} (h : y < x) : imx x y = x := by simp [imx, h]
theorem imx_g {x y : Int} (h : ¬ y < x) : imx x y = y := by simp [imx, h]
set_option maxHeartbeats 400000 in
theorem ranked_any (x y : Int) (w : World) :
    Calls Tryz.prog 231 #[.int .i64 x, .int .i64 y] w fun e w' => e = .returned (.tuple #[.int .i64 (imn x y), .int .i64 (imx x y)]) ∧ w = w' := by
  by_cases h : y < x
  · rw [imn_l h, imx_l h]
    go_enter Tryz.func231, Tryz.ntmps231
    go_wp2
    go_ret2
    exact ⟨rfl, rfl⟩
  · rw [imn_g h, imx_g h]
    go_enter Tryz.func231, Tryz.ntmps231
    go_wp2
    go_ret2
    exact ⟨rfl, rfl⟩
set_option maxHeartbeats 400000 in
theorem l1Max_any (x y : Int) (w : World) :
    Calls Tryz.prog 147 #[.int .i64 x, .int .i64 y] w fun e w' => e = .returned (.int .i64 (imx x y)) ∧ w = w' := by
  go_enter Tryz.func147, Tryz.ntmps147
  go_wp2
  all_goals go_ret
  all_goals exact ⟨ret_int (by first | rw [imx_l (by omega)] | rw [imx_g (by omega)]), rfl⟩
end Go.Proofs.YtfhappkeipcemaaGreat
namespace Go.Proofs.YtfhappkeipcemaaGreat
open Go.RowKit
set_option linter.unusedVariables false
theorem tdiv_bd (x n : Int) (h : 0 < n) : -(if x < 0 then -x else x) ≤ x.tdiv n ∧ x.tdiv n ≤ (if x < 0 then -x else x) := by
  have e : (x.tdiv n).natAbs = x.natAbs / n.natAbs := Int.natAbs_tdiv x n
  have l : x.natAbs / n.natAbs ≤ x.natAbs := Nat.div_le_self _ _
  generalize x.natAbs / n.natAbs = q at e l
  generalize x.tdiv n = y at e
  split <;> omega
theorem tdown (x n : Int) (h : 0 < n) (hm : x.tmod n < 0) : x / n = x.tdiv n - 1 := by
  rw [Int.tmod_eq_emod] at hm
  rw [Int.tdiv_eq_ediv]
  have hs : n.sign = 1 := Int.sign_eq_one_of_pos h
  have hr := Int.emod_nonneg x (b := n) (by omega)
  split at hm
  · omega
  · next hc => rw [if_neg hc, hs]; omega
theorem tdown' (x n : Int) (h : 0 < n) (hm : 0 ≤ x.tmod n) : x / n = x.tdiv n := by
  rw [Int.tmod_eq_emod] at hm
  rw [Int.tdiv_eq_ediv]
  have hs : n.sign = 1 := Int.sign_eq_one_of_pos h
  have hr := Int.emod_lt_of_pos x h
  split at hm
  · next hc => rw [if_pos hc]; omega
  · omega
def midI (lo hi : Int) : Int := match okI lo hi with | true => (lo + hi) / 2 | false => 0
theorem midI_t {lo hi : Int} (h : okI lo hi = true) : midI lo hi = (lo + hi) / 2 := by rw [midI, h]
theorem midI_f {lo hi : Int} (h : okI lo hi = false) : midI lo hi = 0 := by rw [midI, h]
set_option maxHeartbeats 400000 in
theorem l1Down_any (x n : Int) (w : World) (h1 : -9000000000000000000 ≤ x) (h2 : x ≤ 9000000000000000000) (hn : 0 < n) (hn2 : n ≤ 9000000000000000000) :
    Calls Tryz.prog 187 #[.int .i64 x, .int .i64 n] w fun e w' => e = .returned (.int .i64 (x / n)) ∧ w = w' := by
  have hne : (n == 0) = false := by rw [beq_eq_false_iff_ne]; omega
  have hq1 : -9000000000000000000 ≤ x.tdiv n := by have := tdiv_bd x n hn; omega
  have hq2 : x.tdiv n ≤ 9000000000000000000 := by have := tdiv_bd x n hn; omega
  go_enter Tryz.func187, Tryz.ntmps187
  go_wp2
  all_goals go_ret
  all_goals exact ⟨ret_int (by first | exact (tdown x n hn ‹_›).symm | exact (tdown' x n hn ‹_›).symm), rfl⟩
set_option maxHeartbeats 400000 in
theorem specMiddle_any (lo hi : Int) (w : World) :
    Calls Tryz.prog 146 #[.agg #[.int .i64 lo, .int .i64 hi]] w fun e w' => e = .returned (.tuple #[.int .i64 (midI lo hi), .bool (okI lo hi)]) ∧ Below w.heap.size w w' := by
  cases h : okI lo hi
  · rw [midI_f h]
    go_enter Tryz.func146, Tryz.ntmps146
    go_wp2_with (first | (go_at_call 65; refine (specIvalOk_any _ _ _).mono ?_; rintro e w' ⟨rfl, hb⟩; obtain ⟨hc, hf⟩ := bcell hb; (first | have hB := Below.trans (Below.trans hB (by repeat (first | exact Below.refl _ _ | refine Below.drew ?_ | refine Below.alloc ?_ (by first | (simp; done) | (simp; omega) | omega) _ | refine Below.setCell ?_ (by first | (simp; done) | (simp; omega) | omega) _ | refine Below.trans ?_ (Below.mono (by assumption) (by first | (simp; done) | (simp; omega) | omega))))) (Below.mono hb (by first | (simp; done) | (simp; omega) | omega)) | have hB := hb); obtain ⟨hC, hF⟩ := bcell hB; have hz := hb.size; (try simp at hz); (try (have hz0 : w.heap.size < w'.heap.size := by omega)); (try (have hz1 : w.heap.size + 1 < w'.heap.size := by omega)); (try (have hz2 : w.heap.size + 1 + 1 < w'.heap.size := by omega)); (try (have hz3 : w.heap.size + 1 + 1 + 1 < w'.heap.size := by omega))))
    go_ret2
    exact ⟨rfl, by repeat (first | exact Below.refl _ _ | refine Below.drew ?_ | refine Below.alloc ?_ (by first | (simp; done) | (simp; omega) | omega) _ | refine Below.setCell ?_ (by first | (simp; done) | (simp; omega) | omega) _ | refine Below.trans ?_ (Below.mono (by assumption) (by first | (simp; done) | (simp; omega) | omega)))⟩
  · rw [midI_t h]
    have ⟨h1, h2, h3⟩ := okI_t h
    go_enter Tryz.func146, Tryz.ntmps146
    go_wp2_with (first | (go_at_call 65; refine (specIvalOk_any _ _ _).mono ?_; rintro e w' ⟨rfl, hb⟩; obtain ⟨hc, hf⟩ := bcell hb; (first | have hB := Below.trans (Below.trans hB (by repeat (first | exact Below.refl _ _ | refine Below.drew ?_ | refine Below.alloc ?_ (by first | (simp; done) | (simp; omega) | omega) _ | refine Below.setCell ?_ (by first | (simp; done) | (simp; omega) | omega) _ | refine Below.trans ?_ (Below.mono (by assumption) (by first | (simp; done) | (simp; omega) | omega))))) (Below.mono hb (by first | (simp; done) | (simp; omega) | omega)) | have hB := hb); obtain ⟨hC, hF⟩ := bcell hB; have hz := hb.size; (try simp at hz); (try (have hz0 : w.heap.size < w'.heap.size := by omega)); (try (have hz1 : w.heap.size + 1 < w'.heap.size := by omega)); (try (have hz2 : w.heap.size + 1 + 1 < w'.heap.size := by omega)); (try (have hz3 : w.heap.size + 1 + 1 + 1 < w'.heap.size := by omega))) | (go_at_call 187; refine (l1Down_any _ _ _ (by omega) (by omega) (by omega) (by omega)).mono ?_; rintro e w' ⟨rfl, rfl⟩))
    go_ret2
    exact ⟨rfl, by repeat (first | exact Below.refl _ _ | refine Below.drew ?_ | refine Below.alloc ?_ (by first | (simp; done) | (simp; omega) | omega) _ | refine Below.setCell ?_ (by first | (simp; done) | (simp; omega) | omega) _ | refine Below.trans ?_ (Below.mono (by assumption) (by first | (simp; done) | (simp; omega) | omega)))⟩
set_option maxHeartbeats 400000 in
theorem implMiddle_any (lo hi : Int) (w : World) :
    Calls Tryz.prog 188 #[.agg #[.int .i64 lo, .int .i64 hi]] w fun e w' => e = .returned (.tuple #[.int .i64 (midI lo hi), .bool (okI lo hi)]) ∧ Below w.heap.size w w' := by
  cases h : okI lo hi
  · rw [midI_f h]
    go_enter Tryz.func188, Tryz.ntmps188
    go_wp2_with (first | (go_at_call 70; refine (ok_any _ _ _).mono ?_; rintro e w' ⟨rfl, hb⟩; obtain ⟨hc, hf⟩ := bcell hb; (first | have hB := Below.trans (Below.trans hB (by repeat (first | exact Below.refl _ _ | refine Below.drew ?_ | refine Below.alloc ?_ (by first | (simp; done) | (simp; omega) | omega) _ | refine Below.setCell ?_ (by first | (simp; done) | (simp; omega) | omega) _ | refine Below.trans ?_ (Below.mono (by assumption) (by first | (simp; done) | (simp; omega) | omega))))) (Below.mono hb (by first | (simp; done) | (simp; omega) | omega)) | have hB := hb); obtain ⟨hC, hF⟩ := bcell hB; have hz := hb.size; (try simp at hz); (try (have hz0 : w.heap.size < w'.heap.size := by omega)); (try (have hz1 : w.heap.size + 1 < w'.heap.size := by omega)); (try (have hz2 : w.heap.size + 1 + 1 < w'.heap.size := by omega)); (try (have hz3 : w.heap.size + 1 + 1 + 1 < w'.heap.size := by omega))))
    go_ret2
    exact ⟨rfl, by repeat (first | exact Below.refl _ _ | refine Below.drew ?_ | refine Below.alloc ?_ (by first | (simp; done) | (simp; omega) | omega) _ | refine Below.setCell ?_ (by first | (simp; done) | (simp; omega) | omega) _ | refine Below.trans ?_ (Below.mono (by assumption) (by first | (simp; done) | (simp; omega) | omega)))⟩
  · rw [midI_t h]
    have ⟨h1, h2, h3⟩ := okI_t h
    go_enter Tryz.func188, Tryz.ntmps188
    go_wp2_with (first | (go_at_call 70; refine (ok_any _ _ _).mono ?_; rintro e w' ⟨rfl, hb⟩; obtain ⟨hc, hf⟩ := bcell hb; (first | have hB := Below.trans (Below.trans hB (by repeat (first | exact Below.refl _ _ | refine Below.drew ?_ | refine Below.alloc ?_ (by first | (simp; done) | (simp; omega) | omega) _ | refine Below.setCell ?_ (by first | (simp; done) | (simp; omega) | omega) _ | refine Below.trans ?_ (Below.mono (by assumption) (by first | (simp; done) | (simp; omega) | omega))))) (Below.mono hb (by first | (simp; done) | (simp; omega) | omega)) | have hB := hb); obtain ⟨hC, hF⟩ := bcell hB; have hz := hb.size; (try simp at hz); (try (have hz0 : w.heap.size < w'.heap.size := by omega)); (try (have hz1 : w.heap.size + 1 < w'.heap.size := by omega)); (try (have hz2 : w.heap.size + 1 + 1 < w'.heap.size := by omega)); (try (have hz3 : w.heap.size + 1 + 1 + 1 < w'.heap.size := by omega))))
    go_ret2
    exact ⟨rfl, by repeat (first | exact Below.refl _ _ | refine Below.drew ?_ | refine Below.alloc ?_ (by first | (simp; done) | (simp; omega) | omega) _ | refine Below.setCell ?_ (by first | (simp; done) | (simp; omega) | omega) _ | refine Below.trans ?_ (Below.mono (by assumption) (by first | (simp; done) | (simp; omega) | omega)))⟩
end Go.Proofs.YtfhappkeipcemaaGreat
namespace Go.Proofs.YtfhappkeipcemaaGreat
open Go.RowKit
set_option linter.unusedVariables false
theorem keepC {w : World} {g i j k : Nat} {x u : Value} (h : w.cell? ⟨g, i, none⟩ = some x) (hj : g ≠ j) : (w.setCell ⟨j, k, none⟩ u).cell? ⟨g, i, none⟩ = some x := by
  rw [World.cell?_of_block (w := w) (Below.heap_setCell _ _ _ _ hj)]
  exact h
end Go.Proofs.YtfhappkeipcemaaGreat
namespace Go.Proofs.YtfhappkeipcemaaGreat
open Go.RowKit
set_option linter.unusedVariables false
theorem inT_t {l : Int} (h : inT l = true) : -1000000000000 ≤ l ∧ l ≤ 1000000000000 := of_decide_eq_true h
theorem apB_t {h : Bool} {l : Int} (e : apB h l = true) : (-1000000000000 ≤ l ∧ l ≤ 1000000000000) ∧ (h = false → l = 0) := by
  unfold apB at e
  simp only [Bool.and_eq_true, Bool.or_eq_true, beq_iff_eq] at e
  exact ⟨inT_t e.1, fun hh => by rcases e.2 with q | q; · rw [hh] at q; cases q
                                 · exact q⟩
def arBad (h : Bool) (l : Int) (k : Bool) (lo hi : Int) : Bool := !apB h l || (k && !okI lo hi)
def arC (h : Bool) (l : Int) (k : Bool) (lo hi : Int) : Int := match arBad h l k lo hi, k, h with | true, _, _ => 1 | false, false, false => 2 | false, _, _ => 0
def arD (h : Bool) (l : Int) (k : Bool) (lo hi : Int) : Bool := match arBad h l k lo hi, k with | true, _ => false | false, false => h | false, true => h && decide (hi < l)
def arM (h : Bool) (l : Int) (lo hi : Int) : Int := match h with | true => imx ((lo + hi) / 2) l | false => (lo + hi) / 2
def arX (h : Bool) (l : Int) (k : Bool) (lo hi : Int) : Int := match arBad h l k lo hi, k, (h && decide (hi < l)) with | true, _, _ => 0 | false, false, _ => (match h with | true => l | false => 0) | false, true, true => l | false, true, false => arM h l lo hi
def arH (h : Bool) (l : Int) (k : Bool) (lo hi : Int) : Bool := match arBad h l k lo hi, k with | true, _ => false | false, false => h | false, true => true
def arL (h : Bool) (l : Int) (k : Bool) (lo hi : Int) : Int := match arBad h l k lo hi, k with | true, _ => 0 | false, false => l | false, true => arX h l true lo hi
theorem ar_eqs {h : Bool} {l : Int} {k : Bool} {lo hi : Int} (e : arBad h l k lo hi = true) : arH h l k lo hi = false ∧ arL h l k lo hi = 0 ∧ arX h l k lo hi = 0 ∧ arD h l k lo hi = false ∧ arC h l k lo hi = 1 := by
  refine ⟨?_, ?_, ?_, ?_, ?_⟩
  · unfold arH; rw [e]
  · unfold arL; rw [e]
  · unfold arX; rw [e]
  · unfold arD; rw [e]
  · unfold arC; rw [e]
theorem ar_no {l : Int} {lo hi : Int} (e : arBad false l false lo hi = false) : arH false l false lo hi = false ∧ arL false l false lo hi = l ∧ arX false l false lo hi = 0 ∧ arD false l false lo hi = false ∧ arC false l false lo hi = 2 := by
  refine ⟨?_, ?_, ?_, ?_, ?_⟩
  · unfold arH; rw [e]
  · unfold arL; rw [e]
  · unfold arX; rw [e]
  · unfold arD; rw [e]
  · unfold arC; rw [e]
theorem ar_old {l : Int} {lo hi : Int} (e : arBad true l false lo hi = false) : arH true l false lo hi = true ∧ arL true l false lo hi = l ∧ arX true l false lo hi = l ∧ arD true l false lo hi = true ∧ arC true l false lo hi = 0 := by
  refine ⟨?_, ?_, ?_, ?_, ?_⟩
  · unfold arH; rw [e]
  · unfold arL; rw [e]
  · unfold arX; rw [e]
  · unfold arD; rw [e]
  · unfold arC; rw [e]
theorem ar_known {h : Bool} {l : Int} {lo hi : Int} (e : arBad h l true lo hi = false) : arH h l true lo hi = true ∧ arL h l true lo hi = arX h l true lo hi ∧ arX h l true lo hi = (match (h && decide (hi < l)) with | true => l | false => arM h l lo hi) ∧ arD h l true lo hi = (h && decide (hi < l)) ∧ arC h l true lo hi = 0 := by
  refine ⟨?_, ?_, ?_, ?_, ?_⟩
  · unfold arH; rw [e]
  · unfold arL; rw [e]
  · unfold arX; rw [e]; cases (h && decide (hi < l)) <;> rfl
  · unfold arD; rw [e]
  · unfold arC; rw [e]
set_option maxRecDepth 100000 in
set_option maxHeartbeats 8000000 in
theorem specAppRead_any (h : Bool) (l : Int) (k : Bool) (lo hi : Int) (w : World) : Calls Tryz.prog 93 #[.agg #[.bool h, .int .i64 l], .bool k, .agg #[.int .i64 lo, .int .i64 hi]] w fun e w' => e = .returned (.tuple #[.agg #[.bool (arH h l k lo hi), .int .i64 (arL h l k lo hi)], .int .i64 (arX h l k lo hi), .bool (arD h l k lo hi), .int .i64 (arC h l k lo hi)]) ∧ Below w.heap.size w w' := by
  have A0 := Below.nw w (.cells #[.bool h, .int .i64 l] 63)
  have A1 := Below.nw (w.alloc (.cells #[.bool h, .int .i64 l] 63)) (.cells #[.int .i64 lo, .int .i64 hi] 46)
  have A2 := Below.nw ((w.alloc (.cells #[.bool h, .int .i64 l] 63)).alloc (.cells #[.int .i64 lo, .int .i64 hi] 46)) (.cells #[.bool false, .int .i64 0] 63)
  have N := ((Bx2.new w (.bool h) (.int .i64 l) 63).below A1).below A2
  have Q := (Bx2.new (w.alloc (.cells #[.bool h, .int .i64 l] 63)) (.int .i64 lo) (.int .i64 hi) 46).below A2
  have R := Bx2.new ((w.alloc (.cells #[.bool h, .int .i64 l] 63)).alloc (.cells #[.int .i64 lo, .int .i64 hi] 46)) (.bool false) (.int .i64 0) 63
  have B := (A0.trans (A1.mono A0.size)).trans (A2.mono (A0.trans (A1.mono A0.size)).size)
  simp only [World.size_alloc] at Q R
  clear A0 A1 A2
  have hj : w.heap.size ≤ w.heap.size + 1 + 1 := by omega
  have d1 : w.heap.size ≠ w.heap.size + 1 + 1 := by omega
  cases h1 : apB h l
  · have eb : arBad h l k lo hi = true := by rw [arBad, h1]; rfl
    obtain ⟨e1, e2, e3, e4, e5⟩ := ar_eqs eb
    rw [e1, e2, e3, e4, e5]
    clear e1 e2 e3 e4 e5 eb
    go_enter Tryz.func93, Tryz.ntmps93; go_upto_region 1 with fail; generalize (((w.alloc (.cells #[.bool h, .int .i64 l] 63)).alloc (.cells #[.int .i64 lo, .int .i64 hi] 46)).alloc (.cells #[.bool false, .int .i64 0] 63)) = v at *; generalize w.heap.size + 1 + 1 = jr at *; generalize w.heap.size + 1 = jb at *
    obtain ⟨n0, n1, n2, n3, n4⟩ := id N; go_wp2_with fail; refine (specAppOk_any h l v).mono ?_; rintro e v2 ⟨rfl, hbl⟩; rw [h1]; clear n0 n1 n2 n3 n4; replace N := N.below hbl; replace Q := Q.below hbl; replace R := R.below hbl; replace B := B.trans (hbl.mono B.size); clear hbl
    have RR := (R.set0 (.bool false)).set1 (.int .i64 0)
    have BB := (B.setCell (p := ⟨jr, 0, none⟩) hj (.bool false)).setCell (p := ⟨jr, 1, none⟩) hj (.int .i64 0)
    obtain ⟨n0, n1, n2, n3, n4⟩ := id N
    obtain ⟨r0, r1, r2, r3, r4⟩ := id R
    go_wp2_with fail
    clear n0 n1 n2 n3 n4 r0 r1 r2 r3 r4
    generalize (v2.setCell ⟨jr, 0, none⟩ (.bool false)).setCell ⟨jr, 1, none⟩ (.int .i64 0) = vz at *
    obtain ⟨r0, r1, r2, r3, r4⟩ := id RR
    exact bodyPost_ret (v := (.tuple #[.agg #[.bool false, .int .i64 0], .int .i64 0, .bool false, .int .i64 1])) (by simp (maxDischargeDepth := 6) [results, Tryz.results93, go_sem, *]) rfl ⟨rfl, BB⟩
  cases k
  · have eb : arBad h l false lo hi = false := by rw [arBad, h1]; rfl
    cases h
    · obtain ⟨e1, e2, e3, e4, e5⟩ := ar_no eb
      rw [e1, e2, e3, e4, e5]
      clear e1 e2 e3 e4 e5 eb
      go_enter Tryz.func93, Tryz.ntmps93; go_upto_region 1 with fail; generalize (((w.alloc (.cells #[.bool false, .int .i64 l] 63)).alloc (.cells #[.int .i64 lo, .int .i64 hi] 46)).alloc (.cells #[.bool false, .int .i64 0] 63)) = v at *; generalize w.heap.size + 1 + 1 = jr at *; generalize w.heap.size + 1 = jb at *
      obtain ⟨n0, n1, n2, n3, n4⟩ := id N; go_wp2_with fail; refine (specAppOk_any false l v).mono ?_; rintro e v2 ⟨rfl, hbl⟩; rw [h1]; clear n0 n1 n2 n3 n4; replace N := N.below hbl; replace Q := Q.below hbl; replace R := R.below hbl; replace B := B.trans (hbl.mono B.size); clear hbl
      have RR := (R.set0 (.bool false)).set1 (.int .i64 l)
      have BB := (B.setCell (p := ⟨jr, 0, none⟩) hj (.bool false)).setCell (p := ⟨jr, 1, none⟩) hj (.int .i64 l)
      obtain ⟨n0, n1, n2, n3, n4⟩ := id N
      obtain ⟨r0, r1, r2, r3, r4⟩ := id R
      go_wp2_with fail
      clear n0 n1 n2 n3 n4 r0 r1 r2 r3 r4
      generalize (v2.setCell ⟨jr, 0, none⟩ (.bool false)).setCell ⟨jr, 1, none⟩ (.int .i64 l) = vz at *
      obtain ⟨r0, r1, r2, r3, r4⟩ := id RR
      exact bodyPost_ret (v := (.tuple #[.agg #[.bool false, .int .i64 l], .int .i64 0, .bool false, .int .i64 2])) (by simp (maxDischargeDepth := 6) [results, Tryz.results93, go_sem, *]) rfl ⟨rfl, BB⟩
    · obtain ⟨e1, e2, e3, e4, e5⟩ := ar_old eb
      rw [e1, e2, e3, e4, e5]
      clear e1 e2 e3 e4 e5 eb
      go_enter Tryz.func93, Tryz.ntmps93; go_upto_region 1 with fail; generalize (((w.alloc (.cells #[.bool true, .int .i64 l] 63)).alloc (.cells #[.int .i64 lo, .int .i64 hi] 46)).alloc (.cells #[.bool false, .int .i64 0] 63)) = v at *; generalize w.heap.size + 1 + 1 = jr at *; generalize w.heap.size + 1 = jb at *
      obtain ⟨n0, n1, n2, n3, n4⟩ := id N; go_wp2_with fail; refine (specAppOk_any true l v).mono ?_; rintro e v2 ⟨rfl, hbl⟩; rw [h1]; clear n0 n1 n2 n3 n4; replace N := N.below hbl; replace Q := Q.below hbl; replace R := R.below hbl; replace B := B.trans (hbl.mono B.size); clear hbl
      have RR := (R.set0 (.bool true)).set1 (.int .i64 l)
      have BB := (B.setCell (p := ⟨jr, 0, none⟩) hj (.bool true)).setCell (p := ⟨jr, 1, none⟩) hj (.int .i64 l)
      obtain ⟨n0, n1, n2, n3, n4⟩ := id N
      obtain ⟨r0, r1, r2, r3, r4⟩ := id R
      go_upto_region 6 with fail
      refine wp_region_held_drew (S := (fun w' => w'.cell? ⟨w.heap.size, 0, none⟩ = some (.bool true) ∧ w'.cell? ⟨w.heap.size, 1, none⟩ = some (.int .i64 l))) (by kernel_rfl) ?_ (fun hHeld => ?_)
      · first | exact ⟨n1, n2⟩ | exact ⟨keepC (keepC n1 d1) d1, keepC (keepC n2 d1) d1⟩
      refine zTk 0 ?_ ?_ ?_
      rotate_left
      · (intro w hSw; (try dsimp only at hSw); go_simp; all_goals with_reducible rfl)
      (try simp only [Act.put, zSb, zS0, zS1])
      refine zTk 1 ?_ ?_ ?_
      rotate_left
      · (intro w hSw; (try dsimp only at hSw); go_simp; all_goals with_reducible rfl)
      (try simp only [Act.put, zSb, zS0, zS1])
      refine zTk 2 ?_ ?_ ?_
      rotate_left
      · (intro w hSw; (try dsimp only at hSw); go_simp; all_goals with_reducible rfl)
      (try simp only [Act.put, zSb, zS0, zS1])
      refine wpAnyH_ready (rs := [3]) (by kernel_rfl) (by simp) ?_
      refine AllReadyH.cons (by rw [List.getElem?_toArray]; rfl) (fun K hK => ?_) AllReadyH.nil
      go_simp
      refine hK.out _ _ ?_ (fun hHeld => ?_)
      · first | exact ⟨n1, n2⟩ | exact ⟨keepC (keepC n1 d1) d1, keepC (keepC n2 d1) d1⟩
      clear hK K
      (try simp only [Act.put, zSb, zS0, zS1])
      refine zTk 4 ?_ ?_ ?_
      rotate_left
      · (intro w hSw; (try dsimp only at hSw); go_simp; all_goals with_reducible rfl)
      (try simp only [Act.put, zSb, zS0, zS1])
      refine zTk 5 ?_ ?_ ?_
      rotate_left
      · (intro w hSw; (try dsimp only at hSw); go_simp; all_goals with_reducible rfl)
      (try simp only [Act.put, zSb, zS0, zS1])
      refine zTk 6 ?_ ?_ ?_
      rotate_left
      · (intro w hSw; (try dsimp only at hSw); go_simp; all_goals with_reducible rfl)
      (try simp only [Act.put, zSb, zS0, zS1])
      refine wpAnyH_done (by kernel_rfl) ?_ _
      go_wp2_with fail
      clear n0 n1 n2 n3 n4 r0 r1 r2 r3 r4
      generalize (v2.setCell ⟨jr, 0, none⟩ (.bool true)).setCell ⟨jr, 1, none⟩ (.int .i64 l) = vz at *
      obtain ⟨r0, r1, r2, r3, r4⟩ := id RR
      exact bodyPost_ret (v := (.tuple #[.agg #[.bool true, .int .i64 l], .int .i64 l, .bool true, .int .i64 0])) (by simp (maxDischargeDepth := 6) [results, Tryz.results93, go_sem, *]) rfl ⟨rfl, Below.drew BB⟩
  cases h2 : okI lo hi
  · have eb : arBad h l true lo hi = true := by rw [arBad, h1, h2]; rfl
    obtain ⟨e1, e2, e3, e4, e5⟩ := ar_eqs eb
    rw [e1, e2, e3, e4, e5]
    clear e1 e2 e3 e4 e5 eb
    go_enter Tryz.func93, Tryz.ntmps93; go_upto_region 1 with fail; generalize (((w.alloc (.cells #[.bool h, .int .i64 l] 63)).alloc (.cells #[.int .i64 lo, .int .i64 hi] 46)).alloc (.cells #[.bool false, .int .i64 0] 63)) = v at *; generalize w.heap.size + 1 + 1 = jr at *; generalize w.heap.size + 1 = jb at *
    obtain ⟨n0, n1, n2, n3, n4⟩ := id N; go_wp2_with fail; refine (specAppOk_any h l v).mono ?_; rintro e v2 ⟨rfl, hbl⟩; rw [h1]; clear n0 n1 n2 n3 n4; replace N := N.below hbl; replace Q := Q.below hbl; replace R := R.below hbl; replace B := B.trans (hbl.mono B.size); clear hbl
    obtain ⟨m0, m1, m2, m3, m4⟩ := id Q; go_wp2_with fail; refine (specIvalOk_any lo hi v2).mono ?_; rintro e v3 ⟨rfl, hbl⟩; rw [h2]; clear m0 m1 m2 m3 m4; replace N := N.below hbl; replace Q := Q.below hbl; replace R := R.below hbl; replace B := B.trans (hbl.mono B.size); clear hbl
    have RR := (R.set0 (.bool false)).set1 (.int .i64 0)
    have BB := (B.setCell (p := ⟨jr, 0, none⟩) hj (.bool false)).setCell (p := ⟨jr, 1, none⟩) hj (.int .i64 0)
    obtain ⟨n0, n1, n2, n3, n4⟩ := id N
    obtain ⟨r0, r1, r2, r3, r4⟩ := id R
    go_wp2_with fail
    clear n0 n1 n2 n3 n4 r0 r1 r2 r3 r4
    generalize (v3.setCell ⟨jr, 0, none⟩ (.bool false)).setCell ⟨jr, 1, none⟩ (.int .i64 0) = vz at *
    obtain ⟨r0, r1, r2, r3, r4⟩ := id RR
    exact bodyPost_ret (v := (.tuple #[.agg #[.bool false, .int .i64 0], .int .i64 0, .bool false, .int .i64 1])) (by simp (maxDischargeDepth := 6) [results, Tryz.results93, go_sem, *]) rfl ⟨rfl, BB⟩
  have eb : arBad h l true lo hi = false := by rw [arBad, h1, h2]; rfl
  obtain ⟨e1, e2, e3, e4, e5⟩ := ar_known eb
  rw [e2, e1, e3, e4, e5]
  clear e1 e2 e3 e4 e5 eb
  have CM := fun w' => specMiddle_any lo hi w'
  rw [midI_t h2] at CM
  have i1 := okI_t h2
  have i2 := (apB_t h1).1
  have i3 : -1000000000000 ≤ (lo + hi) / 2 ∧ (lo + hi) / 2 ≤ 1000000000000 := by omega
  cases h
  · show Calls Tryz.prog 93 #[.agg #[.bool false, .int .i64 l], .bool true, .agg #[.int .i64 lo, .int .i64 hi]] w fun e w' => e = .returned (.tuple #[.agg #[.bool true, .int .i64 ((lo + hi) / 2)], .int .i64 ((lo + hi) / 2), .bool false, .int .i64 0]) ∧ Below w.heap.size w w'
    generalize (lo + hi) / 2 = md at *
    clear i1 i2 i3
    go_enter Tryz.func93, Tryz.ntmps93; go_upto_region 1 with fail; generalize (((w.alloc (.cells #[.bool false, .int .i64 l] 63)).alloc (.cells #[.int .i64 lo, .int .i64 hi] 46)).alloc (.cells #[.bool false, .int .i64 0] 63)) = v at *; generalize w.heap.size + 1 + 1 = jr at *; generalize w.heap.size + 1 = jb at *
    obtain ⟨n0, n1, n2, n3, n4⟩ := id N; go_wp2_with fail; refine (specAppOk_any false l v).mono ?_; rintro e v2 ⟨rfl, hbl⟩; rw [h1]; clear n0 n1 n2 n3 n4; replace N := N.below hbl; replace Q := Q.below hbl; replace R := R.below hbl; replace B := B.trans (hbl.mono B.size); clear hbl
    obtain ⟨m0, m1, m2, m3, m4⟩ := id Q; go_wp2_with fail; refine (specIvalOk_any lo hi v2).mono ?_; rintro e v3 ⟨rfl, hbl⟩; rw [h2]; clear m0 m1 m2 m3 m4; replace N := N.below hbl; replace Q := Q.below hbl; replace R := R.below hbl; replace B := B.trans (hbl.mono B.size); clear hbl
    obtain ⟨n0, n1, n2, n3, n4⟩ := id N
    obtain ⟨m0, m1, m2, m3, m4⟩ := id Q
    go_wp2_with fail
    refine (CM _).mono ?_
    rintro e v4 ⟨rfl, hbl⟩
    clear n0 n1 n2 n3 n4 m0 m1 m2 m3 m4
    replace N := N.below hbl; replace Q := Q.below hbl; replace R := R.below hbl; replace B := B.trans (hbl.mono B.size); clear hbl
    have RR := (R.set0 (.bool true)).set1 (.int .i64 md)
    have BB := (B.setCell (p := ⟨jr, 0, none⟩) hj (.bool true)).setCell (p := ⟨jr, 1, none⟩) hj (.int .i64 md)
    obtain ⟨n0, n1, n2, n3, n4⟩ := id N
    obtain ⟨r0, r1, r2, r3, r4⟩ := id R
    go_wp2_with fail
    clear n0 n1 n2 n3 n4 r0 r1 r2 r3 r4
    generalize (v4.setCell ⟨jr, 0, none⟩ (.bool true)).setCell ⟨jr, 1, none⟩ (.int .i64 md) = vz at *
    obtain ⟨r0, r1, r2, r3, r4⟩ := id RR
    exact bodyPost_ret (v := (.tuple #[.agg #[.bool true, .int .i64 md], .int .i64 md, .bool false, .int .i64 0])) (by simp (maxDischargeDepth := 6) [results, Tryz.results93, go_sem, *]) rfl ⟨rfl, BB⟩
  · by_cases c : hi < l
    · have c' : decide (hi < l) = true := decide_eq_true c
      rw [c']
      show Calls Tryz.prog 93 #[.agg #[.bool true, .int .i64 l], .bool true, .agg #[.int .i64 lo, .int .i64 hi]] w fun e w' => e = .returned (.tuple #[.agg #[.bool true, .int .i64 l], .int .i64 l, .bool true, .int .i64 0]) ∧ Below w.heap.size w w'
      clear i1 i2 i3 CM
      go_enter Tryz.func93, Tryz.ntmps93; go_upto_region 1 with fail; generalize (((w.alloc (.cells #[.bool true, .int .i64 l] 63)).alloc (.cells #[.int .i64 lo, .int .i64 hi] 46)).alloc (.cells #[.bool false, .int .i64 0] 63)) = v at *; generalize w.heap.size + 1 + 1 = jr at *; generalize w.heap.size + 1 = jb at *
      obtain ⟨n0, n1, n2, n3, n4⟩ := id N; go_wp2_with fail; refine (specAppOk_any true l v).mono ?_; rintro e v2 ⟨rfl, hbl⟩; rw [h1]; clear n0 n1 n2 n3 n4; replace N := N.below hbl; replace Q := Q.below hbl; replace R := R.below hbl; replace B := B.trans (hbl.mono B.size); clear hbl
      obtain ⟨m0, m1, m2, m3, m4⟩ := id Q; go_wp2_with fail; refine (specIvalOk_any lo hi v2).mono ?_; rintro e v3 ⟨rfl, hbl⟩; rw [h2]; clear m0 m1 m2 m3 m4; replace N := N.below hbl; replace Q := Q.below hbl; replace R := R.below hbl; replace B := B.trans (hbl.mono B.size); clear hbl
      obtain ⟨m0, m1, m2, m3, m4⟩ := id Q
      have RR := (R.set0 (.bool true)).set1 (.int .i64 l)
      have BB := (B.setCell (p := ⟨jr, 0, none⟩) hj (.bool true)).setCell (p := ⟨jr, 1, none⟩) hj (.int .i64 l)
      obtain ⟨n0, n1, n2, n3, n4⟩ := id N
      obtain ⟨r0, r1, r2, r3, r4⟩ := id R
      go_upto_region 8 with fail
      refine wp_region_held_drew (S := (fun w' => w'.cell? ⟨w.heap.size, 0, none⟩ = some (.bool true) ∧ w'.cell? ⟨w.heap.size, 1, none⟩ = some (.int .i64 l))) (by kernel_rfl) ?_ (fun hHeld => ?_)
      · first | exact ⟨n1, n2⟩ | exact ⟨keepC (keepC n1 d1) d1, keepC (keepC n2 d1) d1⟩
      refine zTk 0 ?_ ?_ ?_
      rotate_left
      · (intro w hSw; (try dsimp only at hSw); go_simp; all_goals with_reducible rfl)
      (try simp only [Act.put, zSb, zS0, zS1])
      refine zTk 1 ?_ ?_ ?_
      rotate_left
      · (intro w hSw; (try dsimp only at hSw); go_simp; all_goals with_reducible rfl)
      (try simp only [Act.put, zSb, zS0, zS1])
      refine zTk 2 ?_ ?_ ?_
      rotate_left
      · (intro w hSw; (try dsimp only at hSw); go_simp; all_goals with_reducible rfl)
      (try simp only [Act.put, zSb, zS0, zS1])
      refine wpAnyH_ready (rs := [3]) (by kernel_rfl) (by simp) ?_
      refine AllReadyH.cons (by rw [List.getElem?_toArray]; rfl) (fun K hK => ?_) AllReadyH.nil
      go_simp
      refine hK.out _ _ ?_ (fun hHeld => ?_)
      · first | exact ⟨n1, n2⟩ | exact ⟨keepC (keepC n1 d1) d1, keepC (keepC n2 d1) d1⟩
      clear hK K
      (try simp only [Act.put, zSb, zS0, zS1])
      refine zTk 4 ?_ ?_ ?_
      rotate_left
      · (intro w hSw; (try dsimp only at hSw); go_simp; all_goals with_reducible rfl)
      (try simp only [Act.put, zSb, zS0, zS1])
      refine zTk 5 ?_ ?_ ?_
      rotate_left
      · (intro w hSw; (try dsimp only at hSw); go_simp; all_goals with_reducible rfl)
      (try simp only [Act.put, zSb, zS0, zS1])
      refine zTk 6 ?_ ?_ ?_
      rotate_left
      · (intro w hSw; (try dsimp only at hSw); go_simp; all_goals with_reducible rfl)
      (try simp only [Act.put, zSb, zS0, zS1])
      refine wpAnyH_done (by kernel_rfl) ?_ _
      go_wp2_with fail
      clear m0 m1 m2 m3 m4
      clear n0 n1 n2 n3 n4 r0 r1 r2 r3 r4
      generalize (v3.setCell ⟨jr, 0, none⟩ (.bool true)).setCell ⟨jr, 1, none⟩ (.int .i64 l) = vz at *
      obtain ⟨r0, r1, r2, r3, r4⟩ := id RR
      exact bodyPost_ret (v := (.tuple #[.agg #[.bool true, .int .i64 l], .int .i64 l, .bool true, .int .i64 0])) (by simp (maxDischargeDepth := 6) [results, Tryz.results93, go_sem, *]) rfl ⟨rfl, Below.drew BB⟩
    · have c' : decide (hi < l) = false := decide_eq_false c
      rw [c']
      show Calls Tryz.prog 93 #[.agg #[.bool true, .int .i64 l], .bool true, .agg #[.int .i64 lo, .int .i64 hi]] w fun e w' => e = .returned (.tuple #[.agg #[.bool true, .int .i64 (imx ((lo + hi) / 2) l)], .int .i64 (imx ((lo + hi) / 2) l), .bool false, .int .i64 0]) ∧ Below w.heap.size w w'
      have CX := fun w' => l1Max_any ((lo + hi) / 2) l w'
      generalize (lo + hi) / 2 = md at *
      generalize imx md l = mx at *
      clear i1 i2 i3
      go_enter Tryz.func93, Tryz.ntmps93; go_upto_region 1 with fail; generalize (((w.alloc (.cells #[.bool true, .int .i64 l] 63)).alloc (.cells #[.int .i64 lo, .int .i64 hi] 46)).alloc (.cells #[.bool false, .int .i64 0] 63)) = v at *; generalize w.heap.size + 1 + 1 = jr at *; generalize w.heap.size + 1 = jb at *
      obtain ⟨n0, n1, n2, n3, n4⟩ := id N; go_wp2_with fail; refine (specAppOk_any true l v).mono ?_; rintro e v2 ⟨rfl, hbl⟩; rw [h1]; clear n0 n1 n2 n3 n4; replace N := N.below hbl; replace Q := Q.below hbl; replace R := R.below hbl; replace B := B.trans (hbl.mono B.size); clear hbl
      obtain ⟨m0, m1, m2, m3, m4⟩ := id Q; go_wp2_with fail; refine (specIvalOk_any lo hi v2).mono ?_; rintro e v3 ⟨rfl, hbl⟩; rw [h2]; clear m0 m1 m2 m3 m4; replace N := N.below hbl; replace Q := Q.below hbl; replace R := R.below hbl; replace B := B.trans (hbl.mono B.size); clear hbl
      obtain ⟨n0, n1, n2, n3, n4⟩ := id N
      obtain ⟨m0, m1, m2, m3, m4⟩ := id Q
      go_wp2_with fail
      refine (CM _).mono ?_
      rintro e v4 ⟨rfl, hbl⟩
      clear n0 n1 n2 n3 n4 m0 m1 m2 m3 m4
      replace N := N.below hbl; replace Q := Q.below hbl; replace R := R.below hbl; replace B := B.trans (hbl.mono B.size); clear hbl
      obtain ⟨n0, n1, n2, n3, n4⟩ := id N
      go_wp2_with fail
      refine (CX _).mono ?_
      rintro e w' ⟨rfl, rfl⟩
      clear n0 n1 n2 n3 n4
      have RR := (R.set0 (.bool true)).set1 (.int .i64 mx)
      have BB := (B.setCell (p := ⟨jr, 0, none⟩) hj (.bool true)).setCell (p := ⟨jr, 1, none⟩) hj (.int .i64 mx)
      obtain ⟨n0, n1, n2, n3, n4⟩ := id N
      obtain ⟨r0, r1, r2, r3, r4⟩ := id R
      go_wp2_with fail
      clear n0 n1 n2 n3 n4 r0 r1 r2 r3 r4
      generalize (v4.setCell ⟨jr, 0, none⟩ (.bool true)).setCell ⟨jr, 1, none⟩ (.int .i64 mx) = vz at *
      obtain ⟨r0, r1, r2, r3, r4⟩ := id RR
      exact bodyPost_ret (v := (.tuple #[.agg #[.bool true, .int .i64 mx], .int .i64 mx, .bool false, .int .i64 0])) (by simp (maxDischargeDepth := 6) [results, Tryz.results93, go_sem, *]) rfl ⟨rfl, BB⟩
end Go.Proofs.YtfhappkeipcemaaGreat
namespace Go.Proofs.YtfhappkeipcemaaGreat
open Go.RowKit
set_option linter.unusedVariables false
abbrev LkT : Type := Bool × Int × Int
end Go.Proofs.YtfhappkeipcemaaGreat
namespace Go.Proofs.YtfhappkeipcemaaGreat
open Go.RowKit
set_option linter.unusedVariables false
def anC (s : Bool × Int) (q : LkT) : Int := arC s.1 s.2 q.1 q.2.1 q.2.2
def anN (s : Bool × Int) (q : LkT) : Bool × Int := match (anC s q != 1) with | true => (arH s.1 s.2 q.1 q.2.1 q.2.2, arL s.1 s.2 q.1 q.2.1 q.2.2) | false => s
namespace Go.Proofs.YtfhappkeipcemaaGreat
open Go.RowKit
set_option linter.unusedVariables false
set_option maxHeartbeats 2000000 in
theorem above_any (h : Bool) (l lo hi : Int) (w : World) : Calls Tryz.prog 224 #[.agg #[.bool h, .int .i64 l], .agg #[.int .i64 lo, .int .i64 hi]] w fun e w' => e = .returned (.bool (h && decide (hi < l))) ∧ Below w.heap.size w w' := by
  have A0 := Below.nw w (.cells #[.bool h, .int .i64 l] 63)
  have A1 := Below.nw (w.alloc (.cells #[.bool h, .int .i64 l] 63)) (.cells #[.int .i64 lo, .int .i64 hi] 46)
  have A := A0.trans (A1.mono A0.size)
  clear A0 A1
  cases h
  · go_enter Tryz.func224, Tryz.ntmps224
    go_wp2
    go_ret
    exact ⟨rfl, A⟩
  · by_cases c : hi < l
    · have c' : decide (hi < l) = true := decide_eq_true c
      rw [c']
      go_enter Tryz.func224, Tryz.ntmps224
      go_wp2
      go_ret
      exact ⟨rfl, A⟩
    · have c' : decide (hi < l) = false := decide_eq_false c
      rw [c']
      go_enter Tryz.func224, Tryz.ntmps224
      go_wp2
      go_ret
      exact ⟨rfl, A⟩
def gdM (h : Bool) (l m : Int) : Int := match h with | true => imx m l | false => m
set_option maxHeartbeats 2000000 in
theorem atLeast_any (h : Bool) (l m : Int) (w : World) : Calls Tryz.prog 225 #[.agg #[.bool h, .int .i64 l], .int .i64 m] w fun e w' => e = .returned (.int .i64 (gdM h l m)) ∧ Below w.heap.size w w' := by
  have A := Below.nw w (.cells #[.bool h, .int .i64 l] 63)
  have CR := fun w' => ranked_any m l w'
  cases h
  · show Calls Tryz.prog 225 #[.agg #[.bool false, .int .i64 l], .int .i64 m] w fun e w' => e = .returned (.int .i64 m) ∧ Below w.heap.size w w'
    go_enter Tryz.func225, Tryz.ntmps225
    go_wp2
    go_ret
    exact ⟨rfl, A⟩
  · show Calls Tryz.prog 225 #[.agg #[.bool true, .int .i64 l], .int .i64 m] w fun e w' => e = .returned (.int .i64 (imx m l)) ∧ Below w.heap.size w w'
    generalize imx m l = mx at *
    generalize imn m l = mn at *
    go_enter Tryz.func225, Tryz.ntmps225
    go_wp2_with fail
    refine (CR _).mono ?_
    rintro e w' ⟨rfl, rfl⟩
    go_wp2
    go_ret
    exact ⟨rfl, A⟩
set_option maxHeartbeats 2000000 in
theorem lookok_any (k : Bool) (lo hi : Int) (w : World) : Calls Tryz.prog 223 #[.agg #[.bool k, .int .i64 lo, .int .i64 hi]] w fun e w' => e = .returned (.bool (!k || okI lo hi)) ∧ Below w.heap.size w w' := by
  have A := Below.nw w (.cells #[.bool k, .int .i64 lo, .int .i64 hi] 250)
  have CR := fun w' => ok_any lo hi w'
  generalize okI lo hi = q at *
  cases k
  · go_enter Tryz.func223, Tryz.ntmps223
    go_wp2
    go_ret
    exact ⟨rfl, A⟩
  · go_enter Tryz.func223, Tryz.ntmps223
    go_wp2_with fail
    refine (CR _).mono ?_
    rintro e w' ⟨rfl, hb⟩
    have B := A.trans (hb.mono A.size)
    go_wp2
    go_ret
    exact ⟨rfl, B⟩
def gdX (h : Bool) (l : Int) (k : Bool) (lo hi m : Int) : Int := match arBad h l k lo hi, k, (h && decide (hi < l)) with | true, _, _ => 0 | false, false, _ => (match h with | true => l | false => 0) | false, true, true => l | false, true, false => gdM h l m
def gdS (h : Bool) (l : Int) (k : Bool) (lo hi m : Int) : Bool × Int := match arBad h l k lo hi, k, (h && decide (hi < l)) with | false, true, false => (true, gdM h l m) | _, _, _ => (h, l)
theorem gd_bad {h : Bool} {l : Int} {k : Bool} {lo hi m : Int} (e : arBad h l k lo hi = true) : gdX h l k lo hi m = 0 ∧ gdS h l k lo hi m = (h, l) := by
  refine ⟨?_, ?_⟩
  · unfold gdX; rw [e]
  · unfold gdS; rw [e]
theorem gd_no {l : Int} {lo hi m : Int} (e : arBad false l false lo hi = false) : gdX false l false lo hi m = 0 ∧ gdS false l false lo hi m = (false, l) := by
  refine ⟨?_, ?_⟩
  · unfold gdX; rw [e]
  · unfold gdS; rw [e]
theorem gd_old {l : Int} {lo hi m : Int} (e : arBad true l false lo hi = false) : gdX true l false lo hi m = l ∧ gdS true l false lo hi m = (true, l) := by
  refine ⟨?_, ?_⟩
  · unfold gdX; rw [e]
  · unfold gdS; rw [e]
theorem gd_held {h : Bool} {l : Int} {lo hi m : Int} (e : arBad h l true lo hi = false) (c : (h && decide (hi < l)) = true) : gdX h l true lo hi m = l ∧ gdS h l true lo hi m = (h, l) := by
  refine ⟨?_, ?_⟩
  · unfold gdX; rw [e, c]
  · unfold gdS; rw [e, c]
theorem gd_free {h : Bool} {l : Int} {lo hi m : Int} (e : arBad h l true lo hi = false) (c : (h && decide (hi < l)) = false) : gdX h l true lo hi m = gdM h l m ∧ gdS h l true lo hi m = (true, gdM h l m) := by
  refine ⟨?_, ?_⟩
  · unfold gdX; rw [e, c]
  · unfold gdS; rw [e, c]
theorem gd_mid {h : Bool} {l : Int} {k : Bool} {lo hi : Int} : gdX h l k lo hi (midI lo hi) = arX h l k lo hi ∧ gdS h l k lo hi (midI lo hi) = anN (h, l) (k, lo, hi) := by
  cases eb : arBad h l k lo hi
  · cases k
    · cases h
      · obtain ⟨e1, e2, e3, e4, e5⟩ := ar_no eb
        obtain ⟨g1, g2⟩ := gd_no (m := midI lo hi) eb
        refine ⟨g1.trans e3.symm, g2.trans ?_⟩
        unfold anN anC
        rw [e5, e1, e2]
        rfl
      · obtain ⟨e1, e2, e3, e4, e5⟩ := ar_old eb
        obtain ⟨g1, g2⟩ := gd_old (m := midI lo hi) eb
        refine ⟨g1.trans e3.symm, g2.trans ?_⟩
        unfold anN anC
        rw [e5, e1, e2]
        rfl
    · obtain ⟨e1, e2, e3, e4, e5⟩ := ar_known eb
      have hm : midI lo hi = (lo + hi) / 2 := by
        cases ho : okI lo hi
        · unfold arBad at eb
          rw [ho] at eb
          simp at eb
        · exact midI_t ho
      cases hc : (h && decide (hi < l))
      · obtain ⟨g1, g2⟩ := gd_free (m := midI lo hi) eb hc
        rw [hc] at e3
        have e6 : gdM h l (midI lo hi) = arM h l lo hi := by rw [hm]; rfl
        refine ⟨g1.trans (e6.trans e3.symm), g2.trans ?_⟩
        unfold anN anC
        rw [e5, e1, e2, e3, e6]
        rfl
      · obtain ⟨g1, g2⟩ := gd_held (m := midI lo hi) eb hc
        rw [hc] at e3
        have hh : h = true := by cases h <;> simp at hc ⊢
        refine ⟨g1.trans e3.symm, g2.trans ?_⟩
        unfold anN anC
        rw [e5, e1, e2, e3, hh]
        rfl
  · obtain ⟨e1, e2, e3, e4, e5⟩ := ar_eqs eb
    obtain ⟨g1, g2⟩ := gd_bad (m := midI lo hi) eb
    refine ⟨g1.trans e3.symm, g2.trans ?_⟩
    unfold anN anC
    rw [e5]
    rfl
end Go.Proofs.YtfhappkeipcemaaGreat
