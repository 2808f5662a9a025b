/- Contracts of MostCover. -/
import Derived.Test.YtaggohibfghnmaaX910
import Derived.RangeFuncBox
import Derived.RangeFuncNested
import Derived.RangeFuncBound
import Derived.RangeFuncCalls
import Derived.RangeFuncLeaves
import Derived.Shelf.Abstract
import Derived.Shelf.RegionOpen
import Derived.OwnWalkIn
import Derived.TacticsInMore
import Derived.LoopNIn
import Derived.LoopIn
import Derived.WalkKit
import Derived.WalkSpells
import Derived.WalkLawsBesides
import Derived.Deep.RegionHeld
namespace Go.Proofs.Ytaggohibfghnmaa
open Go.RowKit
set_option linter.unusedVariables false
open Go.Maps Go.Sort Go.Shelf
attribute [local go_sem] Oper.semAt_some
/- The greatest cover of a row of turns. -/
def mst (P : List (Int × Int)) : Int := P.foldl (fun s x => imx s x.2) 0
theorem mst_add (P : List (Int × Int)) (x : Int × Int) : mst (P ++ [x]) = imx (mst P) x.2 := by simp [mst]
theorem imx_le {x y z : Int} : z ≤ imx x y ↔ z ≤ x ∨ z ≤ y := by unfold imx; split <;> omega
theorem imx_ge {x y z : Int} : imx x y ≤ z ↔ x ≤ z ∧ y ≤ z := by unfold imx; split <;> omega
theorem mst_from (k : Int) : ∀ (P : List (Int × Int)) (s : Int), k ≤ P.foldl (fun s x => imx s x.2) s ↔ k ≤ s ∨ ∃ x, x ∈ P ∧ k ≤ x.2
  | [], s => by simp
  | y :: P, s => by
    simp only [List.foldl_cons]
    rw [mst_from k P, imx_le]
    constructor
    · rintro ((h | h) | ⟨x, hx, h⟩)
      · exact .inl h
      · exact .inr ⟨y, List.mem_cons_self, h⟩
      · exact .inr ⟨x, List.mem_cons_of_mem _ hx, h⟩
    · rintro (h | ⟨x, hx, h⟩)
      · exact .inl (.inl h)
      · rcases List.mem_cons.1 hx with rfl | hx
        · exact .inl (.inr h)
        · exact .inr ⟨x, hx, h⟩
theorem mst_has {k : Int} (h1 : 1 ≤ k) (P : List (Int × Int)) : k ≤ mst P ↔ ∃ x, x ∈ P ∧ k ≤ x.2 := by
  unfold mst
  rw [mst_from]
  constructor
  · rintro (h | h)
    · omega
    · exact h
  · exact .inr
def neS (s : Bool × Int × List (Int × Int)) : Prop := s.1 = true ∨ s.2.2 ≠ []
theorem neS_step {k : Int} (s : Bool × Int × List (Int × Int)) (x : Int × Int) : neS (rstep k s x) ↔ neS s ∨ k ≤ x.2 := by
  obtain ⟨s1, s2, s3⟩ := s
  unfold rstep neS
  by_cases hk : k ≤ x.2
  · have hn : ¬ x.2 < k := by omega
    cases s1
    · simp [hk]
    · simp [hn]
  · have hn : x.2 < k := by omega
    cases s1 <;> simp [hk, hn]
theorem neS_fold {k : Int} : ∀ (P : List (Int × Int)) (s : Bool × Int × List (Int × Int)), neS (P.foldl (rstep k) s) ↔ neS s ∨ ∃ x, x ∈ P ∧ k ≤ x.2
  | [], s => by simp
  | y :: P, s => by
    simp only [List.foldl_cons]
    rw [neS_fold P, neS_step]
    constructor
    · rintro ((h | h) | ⟨x, hx, h⟩)
      · exact .inl h
      · exact .inr ⟨y, List.mem_cons_self, h⟩
      · exact .inr ⟨x, List.mem_cons_of_mem _ hx, h⟩
    · rintro (h | ⟨x, hx, h⟩)
      · exact .inl (.inl h)
      · rcases List.mem_cons.1 hx with rfl | hx
        · exact .inl (.inr h)
        · exact .inr ⟨x, hx, h⟩
theorem rst_done {f : Nat → Int × Int} {n : Nat} {k : Int} (h1 : 1 ≤ k) : (rst k (trs f n)).1 = false := by
  by_cases h0 : trn f (2 * n) = []
  · simp [trs, h0, rst]
  · have hp := List.length_pos_iff.2 h0
    have hj : (trn f (2 * n)).length - 1 + 1 = (trn f (2 * n)).length := by omega
    have hjl : (trn f (2 * n)).length - 1 < (trs f n).length := by rw [trs_len]; omega
    have e : trs f n = (trs f n).take ((trn f (2 * n)).length - 1) ++ [((trn f (2 * n)).getD ((trn f (2 * n)).length - 1) 0, ((0 : Nat) : Int))] := by
      have h2 := take_add (trs f n) hjl (0, 0)
      rw [trs_at (by omega), trn_top hj] at h2
      rw [← h2, List.take_of_length_le (by rw [trs_len]; omega)]
    rw [e, rst_add]
    generalize rst k ((trs f n).take ((trn f (2 * n)).length - 1)) = s
    obtain ⟨s1, s2, s3⟩ := s
    have hk : ¬ k ≤ 0 := by omega
    have hk2 : (0 : Int) < k := by omega
    cases s1 <;> simp [rstep, hk, hk2]
theorem rns_iff {f : Nat → Int × Int} {n : Nat} {k : Int} (h1 : 1 ≤ k) : rns f n k ≠ [] ↔ k ≤ mst (trs f n) := by
  rw [mst_has h1]
  have h2 := neS_fold (k := k) (trs f n) (false, 0, [])
  have h3 : neS (rst k (trs f n)) ↔ rns f n k ≠ [] := by
    unfold neS rns
    rw [rst_done h1]; simp
  rw [← h3]
  unfold rst
  rw [h2]
  simp [neS]
theorem cov_pos {f : Nat → Int × Int} {t : Int} : ∀ {n i : Nat}, i < n → holdsI (f i).1 (f i).2 t = true → 1 ≤ cov f n t
  | 0, i, h, _ => absurd h (Nat.not_lt_zero _)
  | n + 1, i, h, hh => by
    simp only [cov]
    by_cases e : i = n
    · subst e; simp [hh]
    · have := cov_pos (n := n) (i := i) (by omega) hh; omega
theorem mst_nonneg (P : List (Int × Int)) : 0 ≤ mst P := by unfold mst; exact (mst_from 0 P 0).2 (.inl (Int.le_refl _))
theorem mst_le {f : Nat → Int × Int} {n : Nat} : mst (trs f n) ≤ (n : Int) := by
  by_cases h : mst (trs f n) ≤ (n : Int)
  · exact h
  · have h0 : 1 ≤ mst (trs f n) := by have : (0 : Int) ≤ (n : Int) := by omega
                                      omega
    obtain ⟨x, hx, hk⟩ := (mst_has h0 _).1 (Int.le_refl _)
    obtain ⟨p, _, rfl⟩ := List.mem_map.1 hx
    have := cov_le f p n
    simp only at hk
    omega
theorem mst_pos {f : Nat → Int × Int} {n : Nat} (hn : 0 < n) (ho : allOk f n = true) : 1 ≤ mst (trs f n) := by
  refine (mst_has (Int.le_refl _) _).2 ⟨((f 0).1, (cov f n (f 0).1 : Int)), List.mem_map.2 ⟨_, trn_lo hn, rfl⟩, ?_⟩
  have h0 := allOk_at ho 0 hn
  have ⟨o1, o2, o3⟩ := okI_t h0
  have := cov_pos (f := f) (t := (f 0).1) hn (by simp only [holdsI, h0, Bool.true_and, decide_eq_true_eq]; omega)
  show 1 ≤ (cov f n (f 0).1 : Int)
  omega
def mcI (f : Nat → Int × Int) (n : Nat) : Int := if srcB f n = true then mst (trs f n) else 0
theorem mcI_f {f : Nat → Int × Int} {n : Nat} (h : srcB f n = false) : mcI f n = 0 := by simp [mcI, h]
theorem mcI_t {f : Nat → Int × Int} {n : Nat} (h : srcB f n = true) : mcI f n = mst (trs f n) := by simp [mcI, h]
theorem mcI_0 {f : Nat → Int × Int} : mcI f 0 = 0 := by simp [mcI, trs, trn, mst]
def mcR (f : Nat → Int × Int) (n : Nat) : Int × Int := (rnL f n (mcI f n)).getD 0 (0, 0)
theorem mcR_0 {f : Nat → Int × Int} {n : Nat} (h : mcI f n = 0) : mcR f n = (0, 0) := by rw [mcR, h, rnL_k (by omega)]; rfl
set_option maxRecDepth 100000 in
set_option maxHeartbeats 4000000 in
theorem great_in (a : Option Addr) (n c : Nat) (f : Nat → Int × Int) (w : World) (hn : n ≤ 12) (ho : allOk f n = true) (hs : Src w a n f) :
    CallsIn Fence.wide 7 Try.prog 49 #[.slice a n c] w fun e w' => e = .returned (.int .i64 (mst (trs f n))) ∧ Below w.heap.size w w' := by
  obtain ⟨xs, hxs⟩ := turns_have hn ho
  refine callsIn_of_wp_marks Try.func49 rfl trivial ?_ rfl
  simp only [Try.ntmps49, List.size_toArray, List.length_cons, List.length_nil, Nat.reduceAdd, Nat.reduceSub, Array.replicate_succ, Array.replicate_zero, List.push_toArray, List.append_toArray, List.nil_append, List.cons_append]
  have cT := fun (W : World) => turns_of a n c 6 W
  have hfT : Fence.wide.fn 61 := trivial
  have BM := Boxed.new w 3 (.int .i64 0)
  have BL := Boxed.new (w.alloc (.cells #[.int .i64 0] 3)) 26 (.slice a n c)
  simp only [World.size_alloc] at BL
  have BM5 := BM.alloc (.cells #[.slice a n c] 26)
  have B5 : Below w.heap.size w ((w.alloc (.cells #[.int .i64 0] 3)).alloc (.cells #[.slice a n c] 26)) := by repeat (first | exact Below.refl _ _ | refine Below.drew ?_ | refine Below.alloc ?_ (by first | (simp; done) | (simp; omega) | omega) _ | refine Below.setCell ?_ (by first | (simp; done) | (simp; omega) | omega) _ | refine Below.trans ?_ (Below.mono (by assumption) (by first | (simp; done) | (simp; omega) | omega)))
  have hsz5 : ((w.alloc (.cells #[.int .i64 0] 3)).alloc (.cells #[.slice a n c] 26)).heap.size = w.heap.size + 1 + 1 := by simp
  clear BM
  gi_wp2_with (gi_at_call 61; refine (cT _).mono ?_; rintro e w' ⟨rfl, rfl⟩)
  (try simp only [World.size_alloc])
  generalize ((w.alloc (.cells #[.int .i64 0] 3)).alloc (.cells #[.slice a n c] 26)) = w5 at *
  refine wpIn_rangeFunc_ownG rfl (by omega) (gf := 63) (lb := #[.pointer (some ⟨w.heap.size + 1, 0, none⟩)]) rfl trivial (enters_of Try.func63 (by kernel_rfl) rfl)
    (turns_stops (w.heap.size + 1) w5.heap.size a n c f xs w5 hn ho hxs (Nat.le_refl _) BL.cell (by omega) (hs.below B5)) (fun h1 h2 => Kp9.trans h1 h2) (fun W l o o' _ h1 h2 h3 => Kp9.put o' h1 h2 h3) (Below.refl _ _) (fun _ => rfl)
    (fun pre W => Boxed W w.heap.size 3 (.int .i64 (mst (vals pre))) ∧ Below w.heap.size w W)
    (fun _ _ _ => False)
    (OwnFrom.and (Own.from (boxed_own w.heap.size 3 (fun pre => .int .i64 (mst (vals pre)))) _) (ownFrom_below (Nat.le_refl _) (by omega)))
    (fun _ _ _ _ _ hs _ _ => hs)
    ⟨BM5, B5⟩
    (fun x => { tmps := #[.slice a n c, undef, .int .i64 0, .pointer (some ⟨w.heap.size, 0, none⟩), undef, .int .i64 x.1.2, .slice a n c, .func (.func 63) #[] #[.pointer (some ⟨w.heap.size + 1, 0, none⟩)], .int .i64 x.1.1, .int .i64 x.1.2, undef, undef, undef, undef, undef, undef, undef], defers := [] }) ?assign ?body ?done ?stop
  case assign =>
    intro l x W K hK
    gi_wp2
    exact hK
  case body =>
    rintro l pre x W ⟨hv, hB⟩ hlt
    have HE : Hid (mst (vals (pre ++ [x])) = imx (mst (vals pre)) x.1.2) := by rw [Hid, vals_add, mst_add]
    obtain ⟨⟨p, cv⟩, ⟨hp1, hp2⟩, hc1, hc2⟩ := x
    simp only at HE ⊢
    generalize mst (vals pre) = s at *
    have cs := hv.cell
    have fs := hv.frozen
    have V1 := hv.set (.int .i64 (imx s cv))
    have B1 := hB.setCell (p := ⟨w.heap.size, 0, none⟩) (Nat.le_refl _) (.int .i64 (imx s cv))
    have P1 : Kp9 w5.heap.size W (W.setCell ⟨w.heap.size, 0, none⟩ (.int .i64 (imx s cv))) := Kp9.setCell W (by omega) _
    have Q1 : KeepsFrom w5.heap.size W (W.setCell ⟨w.heap.size, 0, none⟩ (.int .i64 (imx s cv))) := (KeepsOthers.setCell W _ _).from _
    have hfR : Fence.wide.fn 57 := trivial
    have cR := fun (W : World) => CallsIn.inRound l (callsIn_wide (n := 4).2 (ranked_any s cv W))
    gi_wp2_with (gi_at_call 57; refine (cR _).mono ?_; rintro e w' ⟨rfl, rfl⟩)
    exact ⟨Q1, P1, by rw [HE.out]; exact V1, B1⟩
  case done =>
    rintro D ys W hD rfl ⟨hv, hB⟩ hK
    have hc := hv.cell
    rw [hxs] at hc
    gi_wp2
    refine ⟨by simp, .inl ⟨_, _, rfl, run_takeDeferred hK, ?_⟩⟩
    exact ⟨_, results_tmp rfl _ _ _, rfl, hB.trans (belowK_b (w := w) (Nat.le_refl _) W D _ _ (by omega) hK rfl rfl)⟩
  case stop =>
    rintro D c pre W _ _ h _
    exact h.elim
theorem great_any (a : Option Addr) (n c : Nat) (f : Nat → Int × Int) (w : World) (hn : n ≤ 12) (ho : allOk f n = true) (hs : Src w a n f) :
    Calls Try.prog 49 #[.slice a n c] w fun e w' => e = .returned (.int .i64 (mst (trs f n))) ∧ Below w.heap.size w w' :=
  (callsIn_wide (n := 7)).1 (great_in a n c f w hn ho hs)
theorem mc_first {f : Nat → Int × Int} {n : Nat} (hb : srcB f n = true) (hn : 0 < n) : 1 ≤ mcI f n ∧ mcI f n ≤ 12 ∧ 0 < (rns f n (mcI f n)).length ∧ mcR f n = (rns f n (mcI f n)).getD 0 (0, 0) := by
  have ⟨h1, h2⟩ := srcB_le hb
  have hp := mst_pos hn h2
  have hl := mst_le (f := f) (n := n)
  have e := mcI_t hb
  rw [mcR, rnL_t hb (by omega)]
  exact ⟨by omega, by omega, List.length_pos_iff.2 ((rns_iff (by omega)).2 (by omega)), rfl⟩
set_option maxRecDepth 100000 in
set_option maxHeartbeats 1000000 in
theorem implMost (a : Option Addr) (n c : Nat) (f : Nat → Int × Int) (w : World) (hm : n ≤ maxLen) (hs : Src w a n f) :
    Calls Try.prog 22 #[.slice a n c] w fun e w' => e = .returned (.tuple #[.int .i64 (mcI f n), .agg #[.int .i64 (mcR f n).1, .int .i64 (mcR f n).2]]) ∧ Below w.heap.size w w' := by
  have B0 := Below.al9 w (.cells #[.int .i64 0, .int .i64 0] 25)
  have N0 := Vb.new w 0 0 25
  have HS : Hid (Src w a n f) := hs
  have CS := implSources a n c f (w.alloc (.cells #[.int .i64 0, .int .i64 0] 25)) hm (HS.out.below B0)
  by_cases hbad : srcB f n = false ∨ n = 0
  · have e0 : mcI f n = 0 := by
      rcases hbad with h | h
      · exact mcI_f h
      · subst h; exact mcI_0
    rw [mcR_0 e0, e0]
    have hor : srcB f n = false ∨ (srcB f n = true ∧ ((n : Int) == 0) = true) := by
      cases h : srcB f n
      · exact .inl rfl
      · refine .inr ⟨rfl, ?_⟩
        rcases hbad with h2 | h2
        · rw [h] at h2; cases h2
        · subst h2; rfl
    clear hbad
    have goal : ∀ w1 : World, Below w.heap.size w w1 → Vb w1 w.heap.size 0 0 → (Below w.heap.size w ((w1.setCell ⟨w.heap.size, 0, none⟩ (.int .i64 0)).setCell ⟨w.heap.size, 1, none⟩ (.int .i64 0)) ∧ Vb ((w1.setCell ⟨w.heap.size, 0, none⟩ (.int .i64 0)).setCell ⟨w.heap.size, 1, none⟩ (.int .i64 0)) w.heap.size 0 0) := fun w1 hB hN => ⟨Below.put2 hB (Nat.le_refl _) 0 0, hN.put 0 0⟩
    rcases hor with h | ⟨h, hz⟩
    · go_enter Try.func22, Try.ntmps22
      go_wp2_with fail
      refine CS.mono ?_
      rintro e w1 ⟨rfl, hb⟩
      rw [h]
      obtain ⟨B3, N3⟩ := goal w1 (B0.trans (hb.mono B0.size)) (N0.below hb)
      obtain ⟨n0, n1, n2, n3, n4⟩ := N0.below hb
      clear hb B0 N0 CS goal
      go_wp2_with fail
      generalize ((w1.setCell ⟨w.heap.size, 0, none⟩ (.int .i64 0)).setCell ⟨w.heap.size, 1, none⟩ (.int .i64 0)) = w3 at *
      obtain ⟨m0, m1, m2, m3, m4⟩ := N3
      exact bodyPost_ret (v := .tuple #[.int .i64 0, .agg #[.int .i64 0, .int .i64 0]]) (by simp (maxDischargeDepth := 6) [results, Try.results22, go_sem, m1, m2]) rfl ⟨rfl, B3⟩
    · go_enter Try.func22, Try.ntmps22
      go_wp2_with fail
      refine CS.mono ?_
      rintro e w1 ⟨rfl, hb⟩
      rw [h]
      obtain ⟨B3, N3⟩ := goal w1 (B0.trans (hb.mono B0.size)) (N0.below hb)
      obtain ⟨n0, n1, n2, n3, n4⟩ := N0.below hb
      clear hb B0 N0 CS goal
      go_wp2_with fail
      generalize ((w1.setCell ⟨w.heap.size, 0, none⟩ (.int .i64 0)).setCell ⟨w.heap.size, 1, none⟩ (.int .i64 0)) = w3 at *
      obtain ⟨m0, m1, m2, m3, m4⟩ := N3
      exact bodyPost_ret (v := .tuple #[.int .i64 0, .agg #[.int .i64 0, .int .i64 0]]) (by simp (maxDischargeDepth := 6) [results, Try.results22, go_sem, m1, m2]) rfl ⟨rfl, B3⟩
  · have hb9 : srcB f n = true := by cases h : srcB f n; exact absurd (.inl h) hbad; rfl
    have hn0 : 0 < n := by omega
    obtain ⟨f1, f2, f3, f4⟩ := mc_first hb9 hn0
    have ⟨g1, g2⟩ := srcB_le hb9
    have CG := fun (v : World) (hb : Below w.heap.size w v) => great_any a n c f v g1 g2 (HS.out.below hb)
    rw [← mcI_t hb9] at CG
    have CR := fun (v : World) (hb : Below w.heap.size w v) => runsOf_any a n c f (mcI f n) v g1 g2 (HS.out.below hb)
    have hz : ((n : Int) == 0) = false := by rw [beq_eq_false_iff_ne]; omega
    rw [f4]
    have HL : Hid (0 < (rns f n (mcI f n)).length) := f3
    clear hbad f3 f4 g1 g2
    generalize rns f n (mcI f n) = L at *
    generalize mcI f n = k at *
    generalize hlo : (L.getD 0 (0, 0)).1 = lo at *
    generalize hhi : (L.getD 0 (0, 0)).2 = hi at *
    have HLo : Hid ((L.getD 0 (0, 0)).1 = lo) := hlo
    have HHi : Hid ((L.getD 0 (0, 0)).2 = hi) := hhi
    clear hlo hhi
    go_enter Try.func22, Try.ntmps22
    go_wp2_with fail
    refine CS.mono ?_
    rintro e w1 ⟨rfl, hb⟩
    rw [hb9]
    have B1 := B0.trans (hb.mono B0.size)
    have N1 := N0.below hb
    clear hb B0 N0 CS
    go_wp2_with fail
    refine (CG _ B1).mono ?_
    rintro e w2 ⟨rfl, hb⟩
    have B2 := B1.trans (hb.mono B1.size)
    have N2 := N1.below hb
    clear hb B1 N1 CG
    go_wp2_with fail
    have CR2 := CR w2.drew (Below.drew B2)
    obtain ⟨n0, n1, n2, n3, n4⟩ := id N2
    go_region_with (first | (go_at_call 46; refine CR2.mono ?_; rintro e w3 ⟨v, rfl, O, hb⟩; (have B3 := (Below.drew B2).trans (hb.mono B2.size)); (have N3 := (N2.drew).below hb); obtain ⟨a1, c1, rfl, hc1, hcm, S1⟩ := own_src O; obtain ⟨b, off, rfl, hp⟩ := S1.resolve_left (Nat.ne_of_gt HL.out); (have c0 : w3.cell? ⟨b, off, none⟩ = some (.int .i64 lo) := by have := (hp.2 0 HL.out).1; rw [HLo.out] at this; simpa using this); (have c9 : w3.cell? ⟨b, off + 1, none⟩ = some (.int .i64 hi) := by have := (hp.2 0 HL.out).2; rw [HHi.out] at this; simpa using this); (have hli : (0 : Int) < (L.length : Int) := by have := HL.out; omega); obtain ⟨n0, n1, n2, n3, n4⟩ := id N3))
    have B4 : Below w.heap.size w ((w3.setCell ⟨w.heap.size, 0, none⟩ (.int .i64 lo)).setCell ⟨w.heap.size, 1, none⟩ (.int .i64 hi)) := Below.put2 B3 (Nat.le_refl _) lo hi
    have N4 : Vb ((w3.setCell ⟨w.heap.size, 0, none⟩ (.int .i64 lo)).setCell ⟨w.heap.size, 1, none⟩ (.int .i64 hi)) w.heap.size lo hi := N3.put lo hi
    generalize ((w3.setCell ⟨w.heap.size, 0, none⟩ (.int .i64 lo)).setCell ⟨w.heap.size, 1, none⟩ (.int .i64 hi)) = w4 at *
    obtain ⟨m0, m1, m2, m3, m4⟩ := N4
    go_wp2_with fail
    exact bodyPost_ret (v := .tuple #[.int .i64 k, .agg #[.int .i64 lo, .int .i64 hi]]) (by simp (maxDischargeDepth := 6) [results, Try.results22, go_sem, m1, m2]) rfl ⟨rfl, B4⟩
set_option maxRecDepth 100000 in
set_option maxHeartbeats 1000000 in
theorem specMost (a : Option Addr) (n c : Nat) (f : Nat → Int × Int) (w : World) (hm : n ≤ maxLen) (hs : Src w a n f) :
    Calls Try.prog 23 #[.slice a n c] w fun e w' => e = .returned (.tuple #[.int .i64 (mcI f n), .agg #[.int .i64 (mcR f n).1, .int .i64 (mcR f n).2]]) ∧ Below w.heap.size w w' := by
  have B0 := Below.al9 w (.cells #[.int .i64 0, .int .i64 0] 25)
  have N0 := Vb.new w 0 0 25
  have HS : Hid (Src w a n f) := hs
  have CS := fun (v : World) (hb : Below w.heap.size w v) => specSources a n c f v hm (HS.out.below hb)
  have CR := fun (v : World) (k : Int) (hb : Below w.heap.size w v) => specRuns_any a n c f k v hm (HS.out.below hb)
  have goal : Hid (∀ w1 : World, Below w.heap.size w w1 → Vb w1 w.heap.size 0 0 → (Below w.heap.size w ((w1.setCell ⟨w.heap.size, 0, none⟩ (.int .i64 0)).setCell ⟨w.heap.size, 1, none⟩ (.int .i64 0)) ∧ Vb ((w1.setCell ⟨w.heap.size, 0, none⟩ (.int .i64 0)).setCell ⟨w.heap.size, 1, none⟩ (.int .i64 0)) w.heap.size 0 0)) := fun w1 hB hN => ⟨Below.put2 hB (Nat.le_refl _) 0 0, hN.put 0 0⟩
  cases hsb : srcB f n
  · have e0 := mcI_f hsb
    rw [mcR_0 e0, e0]
    rw [hsb] at CS
    unfold maxLen at hm
    have hor : ((0 : Int) < (n : Int)) ∨ n = 0 := by omega
    go_enter Try.func23, Try.ntmps23
    go_wp2_with fail
    go_loopw [4] (fun i wr => i = .int .i64 n ∧ Below w.heap.size w wr ∧ Vb wr w.heap.size 0 0) (fun i _ => 0)
    case atStart => exact ⟨rfl, B0, N0⟩
    case round =>
      obtain ⟨rfl, hB, hN⟩ := hrel
      clear B0 N0
      rcases hor with hpos | rfl
      · go_wp2_with fail
        refine (CS _ hB).mono ?_
        rintro e w1 ⟨rfl, hb⟩
        obtain ⟨B3, N3⟩ := goal.out w1 (hB.trans (hb.mono hB.size)) (hN.below hb)
        obtain ⟨n0, n1, n2, n3, n4⟩ := hN.below hb
        clear hb CS
        go_wp2_with fail
        generalize ((w1.setCell ⟨w.heap.size, 0, none⟩ (.int .i64 0)).setCell ⟨w.heap.size, 1, none⟩ (.int .i64 0)) = w3 at *
        obtain ⟨m0, m1, m2, m3, m4⟩ := N3
        exact bodyPost_ret (v := .tuple #[.int .i64 0, .agg #[.int .i64 0, .int .i64 0]]) (by simp (maxDischargeDepth := 6) [results, Try.results23, go_sem, m1, m2]) rfl ⟨rfl, B3⟩
      · obtain ⟨B3, N3⟩ := goal.out wr hB hN
        obtain ⟨n0, n1, n2, n3, n4⟩ := hN
        go_wp2_with fail
        generalize ((wr.setCell ⟨w.heap.size, 0, none⟩ (.int .i64 0)).setCell ⟨w.heap.size, 1, none⟩ (.int .i64 0)) = w3 at *
        obtain ⟨m0, m1, m2, m3, m4⟩ := N3
        exact bodyPost_ret (v := .tuple #[.int .i64 0, .agg #[.int .i64 0, .int .i64 0]]) (by simp (maxDischargeDepth := 6) [results, Try.results23, go_sem, m1, m2]) rfl ⟨rfl, B3⟩
  · rw [hsb] at CS
    have hml := mst_le (f := f) (n := n)
    have hm0 := mst_nonneg (trs f n)
    have e9 := mcI_t hsb
    have hn12 := (srcB_le hsb).1
    have HE : Hid (∀ k : Int, 1 ≤ k → mcI f n < k → rnL f n k = []) := fun k h1 h2 => by
      rw [rnL_t hsb h1]
      cases hr : rns f n k with
      | nil => rfl
      | cons x l => exact absurd ((rns_iff h1).1 (by rw [hr]; simp)) (by omega)
    have HF : Hid (1 ≤ mcI f n → 0 < (rnL f n (mcI f n)).length) := fun h1 => by
      rw [rnL_t hsb h1]
      exact List.length_pos_iff.2 ((rns_iff h1).2 (by omega))
    rw [← e9] at hml hm0
    have HZ : Hid (mcI f n = 0 → mcR f n = (0, 0)) := fun h => mcR_0 h
    have HR : Hid (mcR f n = (rnL f n (mcI f n)).getD 0 (0, 0)) := rfl
    clear e9 hsb
    generalize mcI f n = mc at *
    generalize hlo : (mcR f n).1 = lo at *
    generalize hhi : (mcR f n).2 = hi at *
    have HLo : Hid ((mcR f n).1 = lo) := hlo
    have HHi : Hid ((mcR f n).2 = hi) := hhi
    clear hlo hhi hm
    go_enter Try.func23, Try.ntmps23
    go_wp2_with fail
    go_loopw [4] (fun i wr => ∃ k : Nat, k ≤ n ∧ mc ≤ (k : Int) ∧ i = .int .i64 k ∧ Below w.heap.size w wr ∧ Vb wr w.heap.size 0 0) (fun i _ => (intOf i).toNat)
    case atStart => exact ⟨n, Nat.le_refl _, hml, rfl, B0, N0⟩
    case round =>
      obtain ⟨k, hk, hmk, rfl, hB, hN⟩ := hrel
      clear B0 N0
      by_cases hk0 : k = 0
      · subst hk0
        have hmc : mc = 0 := by simp at hmk; omega
        have hz := HZ.out hmc
        rw [hz] at HLo HHi
        have e1 : lo = 0 := HLo.out.symm
        have e2 : hi = 0 := HHi.out.symm
        subst e1; subst e2; subst hmc
        obtain ⟨B3, N3⟩ := goal.out wr hB hN
        obtain ⟨n0, n1, n2, n3, n4⟩ := hN
        go_wp2_with fail
        generalize ((wr.setCell ⟨w.heap.size, 0, none⟩ (.int .i64 0)).setCell ⟨w.heap.size, 1, none⟩ (.int .i64 0)) = w3 at *
        obtain ⟨m0, m1, m2, m3, m4⟩ := N3
        exact bodyPost_ret (v := .tuple #[.int .i64 0, .agg #[.int .i64 0, .int .i64 0]]) (by simp (maxDischargeDepth := 6) [results, Try.results23, go_sem, m1, m2]) rfl ⟨rfl, B3⟩
      · have hpos : (0 : Int) < (k : Int) := by omega
        go_wp2_with fail
        refine (CS _ hB).mono ?_
        rintro e w1 ⟨rfl, hb⟩
        have B1 := hB.trans (hb.mono hB.size)
        have N1 := hN.below hb
        clear hb hB hN
        go_wp2_with fail
        refine (CR _ _ B1).mono ?_
        rintro e w2 ⟨v, rfl, O, hb⟩
        have B2 := B1.trans (hb.mono B1.size)
        have N2 := N1.below hb
        clear hb B1 N1
        by_cases hlt : mc < (k : Int)
        · rw [HE.out (k : Int) (by omega) hlt] at O
          obtain ⟨a1, c1, rfl, hc1, hcm, -⟩ := own_src O
          go_wp2_with fail
          go_roundw
          case rel => exact ⟨k - 1, by omega, by omega, by (try simp); omega, B2, N2⟩
          case measure => simp [intOf]; omega
        · have hmc : mc = (k : Int) := by omega
          have HL : Hid (0 < (rnL f n (k : Int)).length) := by rw [Hid, ← hmc]; exact HF.out (by omega)
          have HR2 : Hid (mcR f n = (rnL f n (k : Int)).getD 0 (0, 0)) := by rw [Hid, ← hmc]; exact HR.out
          rw [HR2.out] at HLo HHi
          clear HR2 HR HF HE HZ
          generalize rnL f n (k : Int) = L at *
          obtain ⟨a1, c1, rfl, hc1, hcm, S1⟩ := own_src O
          obtain ⟨b, off, rfl, hp⟩ := S1.resolve_left (Nat.ne_of_gt HL.out)
          have c0 : w2.cell? ⟨b, off, none⟩ = some (.int .i64 lo) := by have := (hp.2 0 HL.out).1; rw [HLo.out] at this; simpa using this
          have c9 : w2.cell? ⟨b, off + 1, none⟩ = some (.int .i64 hi) := by have := (hp.2 0 HL.out).2; rw [HHi.out] at this; simpa using this
          have hli : (0 : Int) < (L.length : Int) := by have := HL.out; omega
          subst hmc
          have B4 : Below w.heap.size w ((w2.setCell ⟨w.heap.size, 0, none⟩ (.int .i64 lo)).setCell ⟨w.heap.size, 1, none⟩ (.int .i64 hi)).drew := Below.drew (Below.put2 B2 (Nat.le_refl _) lo hi)
          have N4 : Vb ((w2.setCell ⟨w.heap.size, 0, none⟩ (.int .i64 lo)).setCell ⟨w.heap.size, 1, none⟩ (.int .i64 hi)).drew w.heap.size lo hi := (N2.put lo hi).drew
          obtain ⟨n0, n1, n2, n3, n4⟩ := N2
          clear hp O
          go_wp2_with fail
          go_region
          generalize ((w2.setCell ⟨w.heap.size, 0, none⟩ (.int .i64 lo)).setCell ⟨w.heap.size, 1, none⟩ (.int .i64 hi)).drew = w4 at *
          obtain ⟨m0, m1, m2, m3, m4⟩ := N4
          go_wp2_with fail
          exact bodyPost_ret (v := .tuple #[.int .i64 (k : Int), .agg #[.int .i64 lo, .int .i64 hi]]) (by simp (maxDischargeDepth := 6) [results, Try.results23, go_sem, m1, m2]) rfl ⟨rfl, B4⟩
end Go.Proofs.Ytaggohibfghnmaa
