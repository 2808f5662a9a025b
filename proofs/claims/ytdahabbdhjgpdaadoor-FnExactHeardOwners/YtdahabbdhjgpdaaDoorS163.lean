/- Whether what is asked of is right; whether a number is in a row; the slots of what was heard. -/
import Derived.Test.YtdahabbdhjgpdaaDoorS162
import Derived.Test.YtdahabbdhjgpdaaDoorB134
import Derived.Deep.RegionHeld3
import Derived.Deep.DeepCutAuto
import Derived.WalkKit
import Derived.WalkSpells
import Derived.WalkLawsBesides
import Derived.Deep.RegionHeld
namespace Go.Proofs.YtdahabbdhjgpdaaDoor
open Go.RowKit
set_option linter.unusedVariables false
/- Whether what is asked of is right. -/
set_option maxRecDepth 100000 in
set_option maxHeartbeats 8000000 in
theorem l16Right_any (a : Option Addr) (n k : Nat) (M : Nat → VT) (s g : Int) (p : Option Addr) (m d : Nat) (PM : Nat → SlT) (nu de c : Int) (w : World) (hm : n ≤ maxLen) (hs : SrcC w a (n * 2) (MFIval M)) (hpm : m ≤ maxLen) (hp : SrcC w p (m * 2) (MFSlot PM)) :
    Calls Tryd.prog 60 #[.slice a n k, .agg #[.int .i64 s, .int .i64 g, .slice p m d], .agg #[.int .i64 nu, .int .i64 de], .int .i64 c] w fun e w' => e = .returned (.bool (rtB M n s g PM m nu de c)) ∧ Below w.heap.size w w' := by
  have A0 := Below.nw w (.cells #[.int .i64 s, .int .i64 g, .slice p m d] 27)
  have A1 := Below.nw (w.alloc (.cells #[.int .i64 s, .int .i64 g, .slice p m d] 27)) (.cells #[.int .i64 nu, .int .i64 de] 39)
  have N := (Tx3.new w (.int .i64 s) (.int .i64 g) (.slice p m d) 27).below A1
  have D := Bx2.new (w.alloc (.cells #[.int .i64 s, .int .i64 g, .slice p m d] 27)) (.int .i64 nu) (.int .i64 de) 39
  have B := A0.trans (A1.mono A0.size)
  simp only [World.size_alloc] at D
  clear A0 A1
  have HS : Hid (SrcC w a (n * 2) (MFIval M)) := hs
  have HP : Hid (SrcC w p (m * 2) (MFSlot PM)) := hp
  have C1 := fun w' h => specHeardOk_any a n k M w' hm h
  have C2 := fun w' h => specPlanOk_any s g p m d PM w' hpm h
  have C3 := fun w' => specDriftOk_any nu de w'
  have C4 := fun w' => l2Time_any c w'
  clear hs hp
  cases h1 : hrB M n
  · rw [show rtB M n s g PM m nu de c = false by unfold rtB; rw [h1]; rfl]
    go_enter Tryd.func60, Tryd.ntmps60; go_upto_region 1 with fail; generalize (w.alloc (.cells #[.int .i64 s, .int .i64 g, .slice p m d] 27)).alloc (.cells #[.int .i64 nu, .int .i64 de] 39) = v at *
    go_wp2_with fail; refine (C1 _ (HS.out.below B)).mono ?_; rintro e v1 ⟨rfl, hb⟩; replace B := B.trans (hb.mono B.size); replace N := N.below hb; replace D := D.below hb; clear hb; rw [h1]
    go_wp2_with fail; go_ret; exact ⟨rfl, B⟩
  cases h2 : plB s g PM m
  · rw [show rtB M n s g PM m nu de c = false by unfold rtB; rw [h1, h2]; rfl]
    go_enter Tryd.func60, Tryd.ntmps60; go_upto_region 1 with fail; generalize (w.alloc (.cells #[.int .i64 s, .int .i64 g, .slice p m d] 27)).alloc (.cells #[.int .i64 nu, .int .i64 de] 39) = v at *
    go_wp2_with fail; refine (C1 _ (HS.out.below B)).mono ?_; rintro e v1 ⟨rfl, hb⟩; replace B := B.trans (hb.mono B.size); replace N := N.below hb; replace D := D.below hb; clear hb; rw [h1]
    obtain ⟨n0, n1, n2, n3, n4, n5, n6⟩ := id N; go_wp2_with fail; refine (C2 _ (HP.out.below B)).mono ?_; rintro e v2 ⟨rfl, hb⟩; clear n0 n1 n2 n3 n4 n5 n6; replace B := B.trans (hb.mono B.size); replace D := D.below hb; clear hb; rw [h2]
    go_wp2_with fail; go_ret; exact ⟨rfl, B⟩
  cases h3 : okD nu de
  · rw [show rtB M n s g PM m nu de c = false by unfold rtB; rw [h1, h2, h3]; rfl]
    go_enter Tryd.func60, Tryd.ntmps60; go_upto_region 1 with fail; generalize (w.alloc (.cells #[.int .i64 s, .int .i64 g, .slice p m d] 27)).alloc (.cells #[.int .i64 nu, .int .i64 de] 39) = v at *
    go_wp2_with fail; refine (C1 _ (HS.out.below B)).mono ?_; rintro e v1 ⟨rfl, hb⟩; replace B := B.trans (hb.mono B.size); replace N := N.below hb; replace D := D.below hb; clear hb; rw [h1]
    obtain ⟨n0, n1, n2, n3, n4, n5, n6⟩ := id N; go_wp2_with fail; refine (C2 _ (HP.out.below B)).mono ?_; rintro e v2 ⟨rfl, hb⟩; clear n0 n1 n2 n3 n4 n5 n6; replace B := B.trans (hb.mono B.size); replace D := D.below hb; clear hb; rw [h2]
    obtain ⟨d0, d1, d2, d3, d4⟩ := id D; go_wp2_with fail; refine (C3 _).mono ?_; rintro e v3 ⟨rfl, hb⟩; clear d0 d1 d2 d3 d4; replace B := B.trans (hb.mono B.size); clear hb; rw [h3]
    go_wp2_with fail; go_ret; exact ⟨rfl, B⟩
  cases h4 : okT c
  · rw [show rtB M n s g PM m nu de c = false by unfold rtB; rw [h1, h2, h3, h4]; rfl]
    go_enter Tryd.func60, Tryd.ntmps60; go_upto_region 1 with fail; generalize (w.alloc (.cells #[.int .i64 s, .int .i64 g, .slice p m d] 27)).alloc (.cells #[.int .i64 nu, .int .i64 de] 39) = v at *
    go_wp2_with fail; refine (C1 _ (HS.out.below B)).mono ?_; rintro e v1 ⟨rfl, hb⟩; replace B := B.trans (hb.mono B.size); replace N := N.below hb; replace D := D.below hb; clear hb; rw [h1]
    obtain ⟨n0, n1, n2, n3, n4, n5, n6⟩ := id N; go_wp2_with fail; refine (C2 _ (HP.out.below B)).mono ?_; rintro e v2 ⟨rfl, hb⟩; clear n0 n1 n2 n3 n4 n5 n6; replace B := B.trans (hb.mono B.size); replace D := D.below hb; clear hb; rw [h2]
    obtain ⟨d0, d1, d2, d3, d4⟩ := id D; go_wp2_with fail; refine (C3 _).mono ?_; rintro e v3 ⟨rfl, hb⟩; clear d0 d1 d2 d3 d4; replace B := B.trans (hb.mono B.size); clear hb; rw [h3]
    go_wp2_with fail; refine (C4 _).mono ?_; rintro e w' ⟨rfl, rfl⟩; rw [h4]
    go_wp2_with fail; go_ret; exact ⟨rfl, B⟩
  · rw [show rtB M n s g PM m nu de c = true by unfold rtB; rw [h1, h2, h3, h4]; rfl]
    go_enter Tryd.func60, Tryd.ntmps60; go_upto_region 1 with fail; generalize (w.alloc (.cells #[.int .i64 s, .int .i64 g, .slice p m d] 27)).alloc (.cells #[.int .i64 nu, .int .i64 de] 39) = v at *
    go_wp2_with fail; refine (C1 _ (HS.out.below B)).mono ?_; rintro e v1 ⟨rfl, hb⟩; replace B := B.trans (hb.mono B.size); replace N := N.below hb; replace D := D.below hb; clear hb; rw [h1]
    obtain ⟨n0, n1, n2, n3, n4, n5, n6⟩ := id N; go_wp2_with fail; refine (C2 _ (HP.out.below B)).mono ?_; rintro e v2 ⟨rfl, hb⟩; clear n0 n1 n2 n3 n4 n5 n6; replace B := B.trans (hb.mono B.size); replace D := D.below hb; clear hb; rw [h2]
    obtain ⟨d0, d1, d2, d3, d4⟩ := id D; go_wp2_with fail; refine (C3 _).mono ?_; rintro e v3 ⟨rfl, hb⟩; clear d0 d1 d2 d3 d4; replace B := B.trans (hb.mono B.size); clear hb; rw [h3]
    go_wp2_with fail; refine (C4 _).mono ?_; rintro e w' ⟨rfl, rfl⟩; rw [h4]
    go_wp2_with fail; go_ret; exact ⟨rfl, B⟩
theorem rtB_t {M : Nat → VT} {n : Nat} {s g : Int} {PM : Nat → SlT} {m : Nat} {nu de c : Int} (h : rtB M n s g PM m nu de c = true) : hrB M n = true ∧ plB s g PM m = true ∧ okD nu de = true ∧ okT c = true := by
  unfold rtB at h
  simp only [Bool.and_eq_true] at h
  exact h
theorem okT_t16 {c : Int} (h : okT c = true) : 0 ≤ c ∧ c ≤ 1000000000000 := by
  unfold okT at h
  simp at h
  omega
theorem iloo {w : World} {a : Option Addr} {l : Nat} {f : Nat → Int} (hs : SrcC w a (l * 1) (MFInt f)) {j : Nat} (hj : j < l) : ∃ b off, a = some ⟨b, off, none⟩ ∧ w.cell? ⟨b, off + j, none⟩ = some (.int .i64 (f j)) := by
  rcases hs with q | ⟨b, off, e, hc⟩
  · exact absurd q (by omega)
  · exact ⟨b, off, e, hc.2 j (by omega)⟩
set_option maxRecDepth 100000 in
set_option maxHeartbeats 4000000 in
theorem l16Has_any (a : Option Addr) (l c : Nat) (f : Nat → Int) (x : Int) (w : World) (hm : l ≤ 1048576) (hs : SrcC w a (l * 1) (MFInt f)) :
    Calls Tryd.prog 68 #[.slice a l c, .int .i64 x] w fun e w' => e = .returned (.bool (hasJ f x l)) ∧ w = w' := by
  have HS : Hid (SrcC w a (l * 1) (MFInt f)) := hs
  clear hs
  go_enter Tryd.func68, Tryd.ntmps68
  go_wp2_with fail
  go_loopw [5] (fun i wr => ∃ (j : Nat), j ≤ l ∧ i = .int .i64 j ∧ hasJ f x j = false ∧ w = wr) (fun i _ => l - (intOf i).toNat)
  case atStart => exact ⟨0, Nat.zero_le _, rfl, rfl, by first | rfl | trivial⟩
  case round =>
    obtain ⟨j, hj2, rfl, hno, rfl⟩ := hrel
    by_cases hlt : j < l
    · obtain ⟨b, off, rfl, c1⟩ := iloo HS.out hlt
      have HLT : Hid (j < l) := hlt
      have hli : (j : Int) < (l : Int) := by omega
      have HE : Hid (hasJ f x (j + 1) = (f j == x)) := by rw [Hid, hasJ, hno, Bool.false_or]
      have HY : Hid ((f j == x) = true → hasJ f x l = true) := fun h => hasJ_yes (beq_iff_eq.1 h) hlt
      clear hno hlt hj2
      generalize f j = y at *
      cases ho : (y == x)
      · rw [ho] at HE
        clear HY
        go_wp2_with fail
        go_roundw
        case rel => exact ⟨j + 1, HLT.out, by go_num, HE.out, by first | rfl | trivial⟩
        case measure => have hlt' := HLT.out; simp [intOf]; omega
      · have hy := HY.out ho
        have HH : Hid (hasJ f x l = true) := hy
        clear HE HY hy
        go_wp2_with fail
        go_ret
        exact ⟨by rw [HH.out]; rfl, rfl⟩
    · have hkn : j = l := by omega
      subst hkn
      have hli : ¬ (j : Int) < (j : Int) := by omega
      have HH : Hid (hasJ f x j = false) := hno
      clear hno hlt hj2
      go_wp2_with fail
      go_ret
      exact ⟨by rw [HH.out]; rfl, rfl⟩
/- The slots of a row. -/
def slL (M : Nat → VT) (n : Nat) : List Int := (List.range n).map (slS M)
theorem slL_len (M : Nat → VT) (n : Nat) : (slL M n).length = n := by unfold slL; simp
theorem slL_snoc (M : Nat → VT) (n : Nat) : slL M (n + 1) = slL M n ++ [(M n).1] := by unfold slL; rw [List.range_succ, List.map_append]; rfl
theorem slL_at {M : Nat → VT} {n i : Nat} (h : i < n) : gI (slL M n) i = slS M i := by unfold gI slL; simp [h]
theorem slL_has (M : Nat → VT) (n : Nat) (x : Int) : hasJ (gI (slL M n)) x (slL M n).length = hasJ (slS M) x n := by rw [slL_len]; exact hasJ_congr fun i hi => slL_at hi
set_option maxRecDepth 100000 in
set_option maxHeartbeats 8000000 in
theorem l16Slots_any (a : Option Addr) (n c : Nat) (M : Nat → VT) (w : World) (hn : n ≤ 16) (hs : SrcC w a (n * 2) (MFIval M)) :
    Calls Tryd.prog 69 #[.slice a n c] w fun e w' => ∃ v, e = .returned v ∧ w'.ownsRow w.heap.size 3 1 v (slL M n).length (irow (slL M n)) ∧ Below w.heap.size w w' := by
  have B := Below.nw w (.cells #[] 3)
  have OW := made_int w
  have hjs : w.heap.size ≤ (w.alloc (.cells #[] 3)).heap.size := B.size
  have HS : Hid (SrcC w a (n * 2) (MFIval M)) := hs
  clear hs
  go_enter Tryd.func69, Tryd.ntmps69
  go_upto_region 2 with fail
  generalize w.alloc (.cells #[] 3) = v at *
  go_wp2_with fail
  go_loopw [3, 4] (fun s3 i wr => ∃ (q : Nat), q ≤ n ∧ i = .int .i64 q ∧ wr.ownsRow w.heap.size 3 1 s3 (slL M q).length (irow (slL M q)) ∧ w.heap.size ≤ wr.heap.size ∧ Below w.heap.size w wr) (fun _ i _ => n - (intOf i).toNat)
  case atStart => exact ⟨0, Nat.zero_le _, rfl, OW, hjs, B⟩
  case round =>
    clear OW B hjs
    obtain ⟨q, hq, rfl, OW, hjs, B⟩ := hrel
    by_cases hlt : q < n
    · have hli : (q : Int) < (n : Int) := by omega
      have HQ : Hid (q < n) := hlt
      obtain ⟨x0, x1, hM⟩ := tupIval M q
      obtain ⟨b, off, rfl, hf⟩ : ∃ b off, a = some ⟨b, off, none⟩ ∧ Cs w b off (n * 2) (MFIval M) := by
        rcases HS.out with r | r
        · exact absurd r (by omega)
        · exact r
      obtain ⟨c0, -⟩ := (hf.below B hf.1).elIval hlt hM
      have HE : Hid (slL M (q + 1) = slL M q ++ [x0]) := by rw [Hid, slL_snoc, hM]
      have hlen : (slL M q).length ≤ 64 := by rw [slL_len]; omega
      clear hM hf HS hlt hq
      generalize slL M q = Lr at *
      go_upto_region 4 with (at_builtin; refine add_int rfl _ _ rfl w.heap.size Lr _ rfl OW rfl hlen hjs ?_; intro v' w9 O9 hg9 hn9)
      have HO9 : Hid (w9.ownsRow w.heap.size 3 1 v' (Lr ++ [x0]).length (irow (Lr ++ [x0]))) := O9
      have B9 := B.trans (grown_belowK OW hg9 hjs)
      have hj9 : w.heap.size ≤ w9.heap.size := Nat.le_trans hjs hg9.size
      clear O9 OW hg9 hn9 B hjs c0
      go_wp2_with fail
      go_roundw
      case rel => exact ⟨q + 1, HQ.out, by go_num, by rw [HE.out]; exact HO9.out, hj9, B9⟩
      case measure => have hlt' := HQ.out; simp [intOf]; omega
    · have hkn : q = n := by omega
      subst hkn
      have hli : ¬ (q : Int) < (q : Int) := by omega
      go_wp2_with fail
      go_ret
      exact ⟨_, rfl, OW, B⟩
end Go.Proofs.YtdahabbdhjgpdaaDoor
