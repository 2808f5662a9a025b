/- Whether what is asked of is right; whether a number is in a row; the slots of what was heard. HeardNow in the specification. The contract of spec.MsgOk. -/
import Derived.Test.YtdahabbdhjgpdaaDoorMH3
import Derived.Deep.RegionHeld3
import Derived.Deep.DeepCutAuto
import Derived.WalkKit
import Derived.WalkSpells
import Derived.WalkLawsBesides
import Derived.Deep.RegionHeld
import Derived.Test.YtdahabbdhjgpdaaDoorMH1
namespace Go.Proofs.YtdahabbdhjgpdaaDoor
open Go.RowKit
set_option linter.unusedVariables false
/- Whether what is asked of is right. -/
set_option maxRecDepth 100000 in
set_option maxHeartbeats 8000000 in
theorem l16Right_any (a : Option Addr) (n k : Nat) (M : Nat → VT) (s g : Int) (p : Option Addr) (m d : Nat) (PM : Nat → SlT) (nu de c : Int) (w : World) (hm : n ≤ maxLen) (hs : SrcC w a (n * 2) (MFIval M)) (hpm : m ≤ maxLen) (hp : SrcC w p (m * 2) (MFSlot PM)) :
    Calls Tryd.prog 60 #[.slice a n k, .agg #[.int .i64 s, .int .i64 g, .slice p m d], .agg #[.int .i64 nu, .int .i64 de], .int .i64 c] w fun e w' => e = .returned (.bool (rtB M n s g PM m nu de c)) ∧ Below w.heap.size w w' := by
  have A0 := Below.nw w (.cells #[.int .i64 s, .int .i64 g, .slice p m d] 27)
  have A1 := Below.nw (w.alloc (.cells #[.int .i64 s, .int .i64 g, .slice p m d] 27)) (.cells #[.int .i64 nu, .int .i64 de] 39)
  have N := (Tx3.new w (.int .i64 s) (.int .i64 g) (.slice p m d) 27).below A1
  have D := Bx2.new (w.alloc (.cells #[.int .i64 s, .int .i64 g, .slice p m d] 27)) (.int .i64 nu) (.int .i64 de) 39
  have B := A0.trans (A1.mono A0.size)
  simp only [World.size_alloc] at D
  clear A0 A1
  have HS : Hid (SrcC w a (n * 2) (MFIval M)) := hs
  have HP : Hid (SrcC w p (m * 2) (MFSlot PM)) := hp
  have C1 := fun w' h => specHeardOk_any a n k M w' hm h
  have C2 := fun w' h => specPlanOk_any s g p m d PM w' hpm h
  have C3 := fun w' => specDriftOk_any nu de w'
  have C4 := fun w' => l2Time_any c w'
  clear hs hp
  cases h1 : hrB M n
  · rw [show rtB M n s g PM m nu de c = false by unfold rtB; rw [h1]; rfl]
    go_enter Tryd.func60, Tryd.ntmps60; go_upto_region 1 with fail; generalize (w.alloc (.cells #[.int .i64 s, .int .i64 g, .slice p m d] 27)).alloc (.cells #[.int .i64 nu, .int .i64 de] 39) = v at *
    go_wp2_with fail; refine (C1 _ (HS.out.below B)).mono ?_; rintro e v1 ⟨rfl, hb⟩; replace B := B.trans (hb.mono B.size); replace N := N.below hb; replace D := D.below hb; clear hb; rw [h1]
    go_wp2_with fail; go_ret; exact ⟨rfl, B⟩
  cases h2 : plB s g PM m
  · rw [show rtB M n s g PM m nu de c = false by unfold rtB; rw [h1, h2]; rfl]
    go_enter Tryd.func60, Tryd.ntmps60; go_upto_region 1 with fail; generalize (w.alloc (.cells #[.int .i64 s, .int .i64 g, .slice p m d] 27)).alloc (.cells #[.int .i64 nu, .int .i64 de] 39) = v at *
    go_wp2_with fail; refine (C1 _ (HS.out.below B)).mono ?_; rintro e v1 ⟨rfl, hb⟩; replace B := B.trans (hb.mono B.size); replace N := N.below hb; replace D := D.below hb; clear hb; rw [h1]
    obtain ⟨n0, n1, n2, n3, n4, n5, n6⟩ := id N; go_wp2_with fail; refine (C2 _ (HP.out.below B)).mono ?_; rintro e v2 ⟨rfl, hb⟩; clear n0 n1 n2 n3 n4 n5 n6; replace B := B.trans (hb.mono B.size); replace D := D.below hb; clear hb; rw [h2]
    go_wp2_with fail; go_ret; exact ⟨rfl, B⟩
  cases h3 : okD nu de
  · rw [show rtB M n s g PM m nu de c = false by unfold rtB; rw [h1, h2, h3]; rfl]
    go_enter Tryd.func60, Tryd.ntmps60; go_upto_region 1 with fail; generalize (w.alloc (.cells #[.int .i64 s, .int .i64 g, .slice p m d] 27)).alloc (.cells #[.int .i64 nu, .int .i64 de] 39) = v at *
    go_wp2_with fail; refine (C1 _ (HS.out.below B)).mono ?_; rintro e v1 ⟨rfl, hb⟩; replace B := B.trans (hb.mono B.size); replace N := N.below hb; replace D := D.below hb; clear hb; rw [h1]
    obtain ⟨n0, n1, n2, n3, n4, n5, n6⟩ := id N; go_wp2_with fail; refine (C2 _ (HP.out.below B)).mono ?_; rintro e v2 ⟨rfl, hb⟩; clear n0 n1 n2 n3 n4 n5 n6; replace B := B.trans (hb.mono B.size); replace D := D.below hb; clear hb; rw [h2]
    obtain ⟨d0, d1, d2, d3, d4⟩ := id D; go_wp2_with fail; refine (C3 _).mono ?_; rintro e v3 ⟨rfl, hb⟩; clear d0 d1 d2 d3 d4; replace B := B.trans (hb.mono B.size); clear hb; rw [h3]
    go_wp2_with fail; go_ret; exact ⟨rfl, B⟩
  cases h4 : okT c
  · rw [show rtB M n s g PM m nu de c = false by unfold rtB; rw [h1, h2, h3, h4]; rfl]
    go_enter Tryd.func60, Tryd.ntmps60; go_upto_region 1 with fail; generalize (w.alloc (.cells #[.int .i64 s, .int .i64 g, .slice p m d] 27)).alloc (.cells #[.int .i64 nu, .int .i64 de] 39) = v at *
    go_wp2_with fail; refine (C1 _ (HS.out.below B)).mono ?_; rintro e v1 ⟨rfl, hb⟩; replace B := B.trans (hb.mono B.size); replace N := N.below hb; replace D := D.below hb; clear hb; rw [h1]
    obtain ⟨n0, n1, n2, n3, n4, n5, n6⟩ := id N; go_wp2_with fail; refine (C2 _ (HP.out.below B)).mono ?_; rintro e v2 ⟨rfl, hb⟩; clear n0 n1 n2 n3 n4 n5 n6; replace B := B.trans (hb.mono B.size); replace D := D.below hb; clear hb; rw [h2]
    obtain ⟨d0, d1, d2, d3, d4⟩ := id D; go_wp2_with fail; refine (C3 _).mono ?_; rintro e v3 ⟨rfl, hb⟩; clear d0 d1 d2 d3 d4; replace B := B.trans (hb.mono B.size); clear hb; rw [h3]
    go_wp2_with fail; refine (C4 _).mono ?_; rintro e w' ⟨rfl, rfl⟩; rw [h4]
    go_wp2_with fail; go_ret; exact ⟨rfl, B⟩
  · rw [show rtB M n s g PM m nu de c = true by unfold rtB; rw [h1, h2, h3, h4]; rfl]
    go_enter Tryd.func60, Tryd.ntmps60; go_upto_region 1 with fail; generalize (w.alloc (.cells #[.int .i64 s, .int .i64 g, .slice p m d] 27)).alloc (.cells #[.int .i64 nu, .int .i64 de] 39) = v at *
    go_wp2_with fail; refine (C1 _ (HS.out.below B)).mono ?_; rintro e v1 ⟨rfl, hb⟩; replace B := B.trans (hb.mono B.size); replace N := N.below hb; replace D := D.below hb; clear hb; rw [h1]
    obtain ⟨n0, n1, n2, n3, n4, n5, n6⟩ := id N; go_wp2_with fail; refine (C2 _ (HP.out.below B)).mono ?_; rintro e v2 ⟨rfl, hb⟩; clear n0 n1 n2 n3 n4 n5 n6; replace B := B.trans (hb.mono B.size); replace D := D.below hb; clear hb; rw [h2]
    obtain ⟨d0, d1, d2, d3, d4⟩ := id D; go_wp2_with fail; refine (C3 _).mono ?_; rintro e v3 ⟨rfl, hb⟩; clear d0 d1 d2 d3 d4; replace B := B.trans (hb.mono B.size); clear hb; rw [h3]
    go_wp2_with fail; refine (C4 _).mono ?_; rintro e w' ⟨rfl, rfl⟩; rw [h4]
    go_wp2_with fail; go_ret; exact ⟨rfl, B⟩
theorem rtB_t {M : Nat → VT} {n : Nat} {s g : Int} {PM : Nat → SlT} {m : Nat} {nu de c : Int} (h : rtB M n s g PM m nu de c = true) : hrB M n = true ∧ plB s g PM m = true ∧ okD nu de = true ∧ okT c = true := by
  unfold rtB at h
  simp only [Bool.and_eq_true] at h
  exact h
theorem okT_t16 {c : Int} (h : okT c = true) : 0 ≤ c ∧ c ≤ 1000000000000 := by
  unfold okT at h
  simp at h
  omega
theorem iloo {w : World} {a : Option Addr} {l : Nat} {f : Nat → Int} (hs : SrcC w a (l * 1) (MFInt f)) {j : Nat} (hj : j < l) : ∃ b off, a = some ⟨b, off, none⟩ ∧ w.cell? ⟨b, off + j, none⟩ = some (.int .i64 (f j)) := by
  rcases hs with q | ⟨b, off, e, hc⟩
  · exact absurd q (by omega)
  · exact ⟨b, off, e, hc.2 j (by omega)⟩
set_option maxRecDepth 100000 in
set_option maxHeartbeats 4000000 in
theorem l16Has_any (a : Option Addr) (l c : Nat) (f : Nat → Int) (x : Int) (w : World) (hm : l ≤ 1048576) (hs : SrcC w a (l * 1) (MFInt f)) :
    Calls Tryd.prog 68 #[.slice a l c, .int .i64 x] w fun e w' => e = .returned (.bool (hasJ f x l)) ∧ w = w' := by
  have HS : Hid (SrcC w a (l * 1) (MFInt f)) := hs
  clear hs
  go_enter Tryd.func68, Tryd.ntmps68
  go_wp2_with fail
  go_loopw [5] (fun i wr => ∃ (j : Nat), j ≤ l ∧ i = .int .i64 j ∧ hasJ f x j = false ∧ w = wr) (fun i _ => l - (intOf i).toNat)
  case atStart => exact ⟨0, Nat.zero_le _, rfl, rfl, by first | rfl | trivial⟩
  case round =>
    obtain ⟨j, hj2, rfl, hno, rfl⟩ := hrel
    by_cases hlt : j < l
    · obtain ⟨b, off, rfl, c1⟩ := iloo HS.out hlt
      have HLT : Hid (j < l) := hlt
      have hli : (j : Int) < (l : Int) := by omega
      have HE : Hid (hasJ f x (j + 1) = (f j == x)) := by rw [Hid, hasJ, hno, Bool.false_or]
      have HY : Hid ((f j == x) = true → hasJ f x l = true) := fun h => hasJ_yes (beq_iff_eq.1 h) hlt
      clear hno hlt hj2
      generalize f j = y at *
      cases ho : (y == x)
      · rw [ho] at HE
        clear HY
        go_wp2_with fail
        go_roundw
        case rel => exact ⟨j + 1, HLT.out, by go_num, HE.out, by first | rfl | trivial⟩
        case measure => have hlt' := HLT.out; simp [intOf]; omega
      · have hy := HY.out ho
        have HH : Hid (hasJ f x l = true) := hy
        clear HE HY hy
        go_wp2_with fail
        go_ret
        exact ⟨by rw [HH.out]; rfl, rfl⟩
    · have hkn : j = l := by omega
      subst hkn
      have hli : ¬ (j : Int) < (j : Int) := by omega
      have HH : Hid (hasJ f x j = false) := hno
      clear hno hlt hj2
      go_wp2_with fail
      go_ret
      exact ⟨by rw [HH.out]; rfl, rfl⟩
/- The slots of a row. -/
def slL (M : Nat → VT) (n : Nat) : List Int := (List.range n).map (slS M)
theorem slL_len (M : Nat → VT) (n : Nat) : (slL M n).length = n := by unfold slL; simp
theorem slL_snoc (M : Nat → VT) (n : Nat) : slL M (n + 1) = slL M n ++ [(M n).1] := by unfold slL; rw [List.range_succ, List.map_append]; rfl
theorem slL_at {M : Nat → VT} {n i : Nat} (h : i < n) : gI (slL M n) i = slS M i := by unfold gI slL; simp [h]
theorem slL_has (M : Nat → VT) (n : Nat) (x : Int) : hasJ (gI (slL M n)) x (slL M n).length = hasJ (slS M) x n := by rw [slL_len]; exact hasJ_congr fun i hi => slL_at hi
set_option maxRecDepth 100000 in
set_option maxHeartbeats 8000000 in
theorem l16Slots_any (a : Option Addr) (n c : Nat) (M : Nat → VT) (w : World) (hn : n ≤ 16) (hs : SrcC w a (n * 2) (MFIval M)) :
    Calls Tryd.prog 69 #[.slice a n c] w fun e w' => ∃ v, e = .returned v ∧ w'.ownsRow w.heap.size 3 1 v (slL M n).length (irow (slL M n)) ∧ Below w.heap.size w w' := by
  have B := Below.nw w (.cells #[] 3)
  have OW := made_int w
  have hjs : w.heap.size ≤ (w.alloc (.cells #[] 3)).heap.size := B.size
  have HS : Hid (SrcC w a (n * 2) (MFIval M)) := hs
  clear hs
  go_enter Tryd.func69, Tryd.ntmps69
  go_upto_region 2 with fail
  generalize w.alloc (.cells #[] 3) = v at *
  go_wp2_with fail
  go_loopw [3, 4] (fun s3 i wr => ∃ (q : Nat), q ≤ n ∧ i = .int .i64 q ∧ wr.ownsRow w.heap.size 3 1 s3 (slL M q).length (irow (slL M q)) ∧ w.heap.size ≤ wr.heap.size ∧ Below w.heap.size w wr) (fun _ i _ => n - (intOf i).toNat)
  case atStart => exact ⟨0, Nat.zero_le _, rfl, OW, hjs, B⟩
  case round =>
    clear OW B hjs
    obtain ⟨q, hq, rfl, OW, hjs, B⟩ := hrel
    by_cases hlt : q < n
    · have hli : (q : Int) < (n : Int) := by omega
      have HQ : Hid (q < n) := hlt
      obtain ⟨x0, x1, hM⟩ := tupIval M q
      obtain ⟨b, off, rfl, hf⟩ : ∃ b off, a = some ⟨b, off, none⟩ ∧ Cs w b off (n * 2) (MFIval M) := by
        rcases HS.out with r | r
        · exact absurd r (by omega)
        · exact r
      obtain ⟨c0, -⟩ := (hf.below B hf.1).elIval hlt hM
      have HE : Hid (slL M (q + 1) = slL M q ++ [x0]) := by rw [Hid, slL_snoc, hM]
      have hlen : (slL M q).length ≤ 64 := by rw [slL_len]; omega
      clear hM hf HS hlt hq
      generalize slL M q = Lr at *
      go_upto_region 4 with (at_builtin; refine add_int rfl _ _ rfl w.heap.size Lr _ rfl OW rfl hlen hjs ?_; intro v' w9 O9 hg9 hn9)
      have HO9 : Hid (w9.ownsRow w.heap.size 3 1 v' (Lr ++ [x0]).length (irow (Lr ++ [x0]))) := O9
      have B9 := B.trans (grown_belowK OW hg9 hjs)
      have hj9 : w.heap.size ≤ w9.heap.size := Nat.le_trans hjs hg9.size
      clear O9 OW hg9 hn9 B hjs c0
      go_wp2_with fail
      go_roundw
      case rel => exact ⟨q + 1, HQ.out, by go_num, by rw [HE.out]; exact HO9.out, hj9, B9⟩
      case measure => have hlt' := HQ.out; simp [intOf]; omega
    · have hkn : q = n := by omega
      subst hkn
      have hli : ¬ (q : Int) < (q : Int) := by omega
      go_wp2_with fail
      go_ret
      exact ⟨_, rfl, OW, B⟩
end Go.Proofs.YtdahabbdhjgpdaaDoor
namespace Go.Proofs.YtdahabbdhjgpdaaDoor
open Go.RowKit
set_option linter.unusedVariables false
theorem own_baseI16 {w : World} {base base' s n : Nat} {T : TypeId} {v : Value} {xs : List Value} (h : w.ownsRow base' T s v n xs) (hb : base ≤ base') : w.ownsRow base T s v n xs := by
  refine ⟨h.1, ?_⟩
  rcases h.2 with q | ⟨g, cap, cur, h1, h2, h3⟩
  · exact .inl q
  · exact .inr ⟨g, cap, cur, h1, Nat.le_trans hb h2, h3⟩
theorem sub_w {x y : Int} (h1 : 0 ≤ y) (h2 : y ≤ x) (h3 : x ≤ 1000000000000) : IntKind.i64.wrap (x - y) = x - y ∧ wrap64 (x - y) = x - y := ⟨Go.IntWalk.i64_in _ ⟨by omega, by omega⟩, Go.IntWalk.wrap64_in _ ⟨by omega, by omega⟩⟩
/- Which slots are heard now, in the specification. -/
set_option maxRecDepth 100000 in
set_option maxHeartbeats 8000000 in
theorem specHeardNow_any (a : Option Addr) (n k : Nat) (M : Nat → VT) (s g : Int) (p : Option Addr) (m d : Nat) (PM : Nat → SlT) (nu de c : Int) (w : World) (hm : n ≤ maxLen) (hs : SrcC w a (n * 2) (MFIval M)) (hpm : m ≤ maxLen) (hp : SrcC w p (m * 2) (MFSlot PM)) :
    Calls Tryd.prog 22 #[.slice a n k, .agg #[.int .i64 s, .int .i64 g, .slice p m d], .agg #[.int .i64 nu, .int .i64 de], .int .i64 c] w fun e w' => ∃ v, e = .returned v ∧ w'.ownsRow w.heap.size 3 1 v (nwL M n s g PM m nu de c).length (irow (nwL M n s g PM m nu de c)) ∧ Below w.heap.size w w' := by
  have A0 := Below.nw w (.cells #[.int .i64 s, .int .i64 g, .slice p m d] 27)
  have A1 := Below.nw (w.alloc (.cells #[.int .i64 s, .int .i64 g, .slice p m d] 27)) (.cells #[.int .i64 nu, .int .i64 de] 39)
  have N := (Tx3.new w (.int .i64 s) (.int .i64 g) (.slice p m d) 27).below A1
  have D := Bx2.new (w.alloc (.cells #[.int .i64 s, .int .i64 g, .slice p m d] 27)) (.int .i64 nu) (.int .i64 de) 39
  have B := A0.trans (A1.mono A0.size)
  have A2 := Below.nw ((w.alloc (.cells #[.int .i64 s, .int .i64 g, .slice p m d] 27)).alloc (.cells #[.int .i64 nu, .int .i64 de] 39)) (.cells #[] 3)
  have OW := made_int ((w.alloc (.cells #[.int .i64 s, .int .i64 g, .slice p m d] 27)).alloc (.cells #[.int .i64 nu, .int .i64 de] 39))
  replace N := N.below A2
  replace D := D.below A2
  replace B := B.trans (A2.mono B.size)
  have hjs : w.heap.size + 2 ≤ (((w.alloc (.cells #[.int .i64 s, .int .i64 g, .slice p m d] 27)).alloc (.cells #[.int .i64 nu, .int .i64 de] 39)).alloc (.cells #[] 3)).heap.size := by simp
  simp only [World.size_alloc] at D OW
  clear A0 A1 A2
  have HS : Hid (SrcC w a (n * 2) (MFIval M)) := hs
  have HP : Hid (SrcC w p (m * 2) (MFSlot PM)) := hp
  have C1 := fun w' h h' => l16Right_any a n k M s g p m d PM nu de c w' hm h hpm h'
  clear hs hp
  cases h1 : rtB M n s g PM m nu de c
  · rw [show nwL M n s g PM m nu de c = [] by unfold nwL; rw [h1]]
    go_enter Tryd.func22, Tryd.ntmps22; go_upto_region 2 with fail; generalize ((w.alloc (.cells #[.int .i64 s, .int .i64 g, .slice p m d] 27)).alloc (.cells #[.int .i64 nu, .int .i64 de] 39)).alloc (.cells #[] 3) = v at *
    obtain ⟨n0, n1, n2, n3, n4, n5, n6⟩ := id N; obtain ⟨d0, d1, d2, d3, d4⟩ := id D; go_wp2_with fail; refine (C1 _ (HS.out.below B) (HP.out.below B)).mono ?_; rintro e v1 ⟨rfl, hb⟩; clear n0 n1 n2 n3 n4 n5 n6; clear d0 d1 d2 d3 d4; replace B := B.trans (hb.mono B.size); replace N := N.below hb; replace D := D.below hb; replace OW := own_belK' OW hb; replace hjs := Nat.le_trans hjs hb.size; clear hb; rw [h1]
    go_wp2_with fail
    go_ret
    exact ⟨_, rfl, own_baseI16 OW (Nat.le_add_right w.heap.size 2), B⟩
  rw [show nwL M n s g PM m nu de c = fiL (nwP M s g PM m nu de c) (slS M) n by unfold nwL; rw [h1]]
  obtain ⟨r1, r2, r3, r4⟩ := rtB_t h1
  have hn16 := (hrB_t r1).1
  have hc := okT_t16 r4
  have C2 := fun w' h => specRoundOf_any s g p m d PM w' hpm h
  have HAT : Hid (∀ j, j < n → 0 ≤ (M j).2) := fun j hj => (hrO_t (hrA_at (hrB_t r1).2 hj).1).2.1
  have HY : Hid (∀ j, nwP M s g PM m nu de c j = true → fiL (nwP M s g PM m nu de c) (slS M) (j + 1) = fiL (nwP M s g PM m nu de c) (slS M) j ++ [(M j).1]) := fun j h => fiL_yes h
  have HX : Hid (∀ j, nwP M s g PM m nu de c j = false → fiL (nwP M s g PM m nu de c) (slS M) (j + 1) = fiL (nwP M s g PM m nu de c) (slS M) j) := fun j h => fiL_no h
  have HLN : Hid (∀ j, (fiL (nwP M s g PM m nu de c) (slS M) j).length ≤ j) := fiL_len _ _
  have HPP : Hid (∀ j, nwP M s g PM m nu de c j = (decide ((M j).2 ≤ c) && (lsB nu de (c - (M j).2) && decide (lsT nu de (c - (M j).2) ≤ rnI s g PM m)))) := fun j => rfl
  have HL0 : Hid (fiL (nwP M s g PM m nu de c) (slS M) 0 = []) := rfl
  have CL0 : Hid (∀ x w', Calls Tryd.prog 61 #[.agg #[.int .i64 nu, .int .i64 de], .int .i64 x] w' fun e w'' => e = .returned (.tuple #[.int .i64 (lsT nu de x), .bool (lsB nu de x)]) ∧ Below w'.heap.size w' w'') := fun x w' => specLeastTime_any nu de x w'
  generalize fiL (nwP M s g PM m nu de c) (slS M) = L at *
  generalize nwP M s g PM m nu de c = P at *
  go_enter Tryd.func22, Tryd.ntmps22; go_upto_region 2 with fail; generalize ((w.alloc (.cells #[.int .i64 s, .int .i64 g, .slice p m d] 27)).alloc (.cells #[.int .i64 nu, .int .i64 de] 39)).alloc (.cells #[] 3) = v at *
  obtain ⟨n0, n1, n2, n3, n4, n5, n6⟩ := id N; obtain ⟨d0, d1, d2, d3, d4⟩ := id D; go_wp2_with fail; refine (C1 _ (HS.out.below B) (HP.out.below B)).mono ?_; rintro e v1 ⟨rfl, hb⟩; clear n0 n1 n2 n3 n4 n5 n6; clear d0 d1 d2 d3 d4; replace B := B.trans (hb.mono B.size); replace N := N.below hb; replace D := D.below hb; replace OW := own_belK' OW hb; replace hjs := Nat.le_trans hjs hb.size; clear hb; rw [h1]
  clear C1 h1 r1 r2 r3 r4 hm hpm
  have HB1 : Hid (Below w.heap.size w v1) := B
  have HN1 : Hid (Tx3 v1 w.heap.size (.int .i64 s) (.int .i64 g) (.slice p m d)) := N
  have HD1 : Hid (Bx2 v1 (w.heap.size + 1) (.int .i64 nu) (.int .i64 de)) := D
  have HO1 : Hid (v1.ownsRow (w.heap.size + 2) 3 1 (.slice (some ⟨w.heap.size + 2, 0, none⟩) 0 0) (L 0).length (irow (L 0))) := by rw [Hid, HL0.out]; exact OW
  have HJ1 : Hid (w.heap.size + 2 ≤ v1.heap.size) := hjs
  clear B N D OW hjs
  go_wp2_with fail
  go_loopw [9, 10] (fun s9 i wr => ∃ (q : Nat), q ≤ n ∧ i = .int .i64 q ∧ wr.ownsRow (w.heap.size + 2) 3 1 s9 (L q).length (irow (L q)) ∧ w.heap.size + 2 ≤ wr.heap.size ∧ Below (w.heap.size + 2) v1 wr) (fun _ i _ => n - (intOf i).toNat)
  case atStart => exact ⟨0, Nat.zero_le _, rfl, HO1.out, HJ1.out, Below.refl _ _⟩
  case round =>
    clear HO1
    obtain ⟨q, hq, rfl, OW, hjs, BJ⟩ := hrel
    have B := HB1.out.trans (BJ.mono (by omega))
    by_cases hlt : q < n
    · have hli : (q : Int) < (n : Int) := by omega
      have HQ : Hid (q < n) := hlt
      obtain ⟨x0, x1, hM⟩ := tupIval M q
      obtain ⟨b, off, rfl, hf⟩ : ∃ b off, a = some ⟨b, off, none⟩ ∧ Cs w b off (n * 2) (MFIval M) := by
        rcases HS.out with r | r
        · exact absurd r (by omega)
        · exact r
      have hf' := hf.below B hf.1
      have hbb := hf'.1
      have hbw := hf.1
      obtain ⟨c0, c1⟩ := hf'.elIval hlt hM
      have h0 := HAT.out q hlt
      rw [hM] at h0
      have hP := HPP.out q
      rw [hM] at hP
      have hY := HY.out q
      rw [hM] at hY
      have N := HN1.out.belowB BJ (by omega)
      have D := HD1.out.belowB BJ (by omega)
      have HPB : Hid (SrcC wr p (m * 2) (MFSlot PM)) := HP.out.below B
      have hlen := HLN.out q
      have HX1 := HX.out q
      clear HAT HPP HY HX HLN hf hf' hM hlt hq HS B HP HB1
      by_cases h2 : c < x1
      · have HE : Hid (L (q + 1) = L q) := HX1 (by rw [hP, decide_eq_false (show ¬ x1 ≤ c by omega)]; rfl)
        have HO9 : Hid (wr.ownsRow (w.heap.size + 2) 3 1 u9 (L q).length (irow (L q))) := OW
        clear hP hY HX1 N D HPB OW h0 hlen CL0
        go_wp2_with fail
        go_roundw
        case rel => exact ⟨q + 1, HQ.out, by go_num, by rw [HE.out]; exact HO9.out, hjs, BJ⟩
        case measure => have hlt' := HQ.out; simp [intOf]; omega
      have h2' : decide (x1 ≤ c) = true := decide_eq_true (by omega)
      rw [h2', Bool.true_and] at hP
      obtain ⟨hw, hx⟩ := sub_w h0 (show x1 ≤ c by omega) hc.2
      have CL := CL0.out (c - x1)
      clear h2' h0 CL0
      cases h3 : lsB nu de (c - x1)
      · have HE : Hid (L (q + 1) = L q) := HX1 (by rw [hP, h3]; rfl)
        rw [h3] at CL
        clear hP hY HX1 h3
        have SK : Hid (∀ w', Below wr.heap.size wr w' → ((fun w' => w'.cell? ⟨w.heap.size + 1, 0, none⟩ = some (.int .i64 nu) ∧ w'.cell? ⟨w.heap.size + 1, 1, none⟩ = some (.int .i64 de) ∧ w'.cell? ⟨b, off + q * 2 + 1, none⟩ = some (.int .i64 x1))) w') := fun w' hw => ⟨(D.below hw).2.1, (D.below hw).2.2.1, (by rw [hw.cell (p := ⟨b, off + q * 2 + 1, none⟩) hbb]; exact c1)⟩
        go_upto_region 8 with fail
        refine wp_region_held_drew (S := (fun w' => w'.cell? ⟨w.heap.size + 1, 0, none⟩ = some (.int .i64 nu) ∧ w'.cell? ⟨w.heap.size + 1, 1, none⟩ = some (.int .i64 de) ∧ w'.cell? ⟨b, off + q * 2 + 1, none⟩ = some (.int .i64 x1))) (by kernel_rfl) ?_ (fun hHeld => ?_)
        · first | exact SK.out _ XB | exact SK.out _ (Below.drew (Below.refl _ _))
        have XB : Below wr.heap.size wr wr.drew := Below.drew (Below.refl _ _)
        generalize wr.drew = vx at *
        refine wpAnyH_take (i := 0) (v := ?_) (by rw [List.getElem?_toArray]; rfl) (by kernel_rfl) (by kernel_rfl) (by kernel_rfl) (by intro _ _ _ h; exact h) (Or.inl ⟨by rfl, ?_⟩) (by assumption) ?_
        rotate_left
        · (intro w hSw; (try dsimp only at hSw); go_simp; all_goals with_reducible rfl)
        (try simp only [Act.put, List.setIfInBounds_toArray, List.set_cons_zero, List.set_cons_succ])
        refine wpAnyH_take (i := 1) (v := ?_) (by rw [List.getElem?_toArray]; rfl) (by kernel_rfl) (by kernel_rfl) (by kernel_rfl) (by intro _ _ _ h; exact h) (Or.inl ⟨by rfl, ?_⟩) (by assumption) ?_
        rotate_left
        · (intro w hSw; (try dsimp only at hSw); go_simp; all_goals with_reducible rfl)
        (try simp only [Act.put, List.setIfInBounds_toArray, List.set_cons_zero, List.set_cons_succ])
        refine wpAnyH_take (i := 2) (v := ?_) (by rw [List.getElem?_toArray]; rfl) (by kernel_rfl) (by kernel_rfl) (by kernel_rfl) (by intro _ _ _ h; exact h) (Or.inl ⟨by rfl, ?_⟩) (by assumption) ?_
        rotate_left
        · (intro w hSw; (try dsimp only at hSw); go_simp; all_goals with_reducible rfl)
        (try simp only [Act.put, List.setIfInBounds_toArray, List.set_cons_zero, List.set_cons_succ])
        refine wpAnyH_take (i := 3) (v := ?_) (by rw [List.getElem?_toArray]; rfl) (by kernel_rfl) (by kernel_rfl) (by kernel_rfl) (by intro _ _ _ h; exact h) (Or.inl ⟨by rfl, ?_⟩) (by assumption) ?_
        rotate_left
        · (intro w hSw; (try dsimp only at hSw); go_simp; all_goals with_reducible rfl)
        (try simp only [Act.put, List.setIfInBounds_toArray, List.set_cons_zero, List.set_cons_succ])
        refine wpAnyH_take (i := 4) (v := ?_) (by rw [List.getElem?_toArray]; rfl) (by kernel_rfl) (by kernel_rfl) (by kernel_rfl) (by intro _ _ _ h; exact h) (Or.inl ⟨by rfl, ?_⟩) (by assumption) ?_
        rotate_left
        · (intro w hSw; (try dsimp only at hSw); go_simp; all_goals with_reducible rfl)
        (try simp only [Act.put, List.setIfInBounds_toArray, List.set_cons_zero, List.set_cons_succ])
        refine wpAnyH_take (i := 5) (v := ?_) (by rw [List.getElem?_toArray]; rfl) (by kernel_rfl) (by kernel_rfl) (by kernel_rfl) (by intro _ _ _ h; exact h) (Or.inl ⟨by rfl, ?_⟩) (by assumption) ?_
        rotate_left
        · (intro w hSw; (try dsimp only at hSw); go_simp; all_goals with_reducible rfl)
        (try simp only [Act.put, List.setIfInBounds_toArray, List.set_cons_zero, List.set_cons_succ])
        refine wpAnyH_take (i := 6) (v := ?_) (by rw [List.getElem?_toArray]; rfl) (by kernel_rfl) (by kernel_rfl) (by kernel_rfl) (by intro _ _ _ h; exact h) (Or.inl ⟨by rfl, ?_⟩) (by assumption) ?_
        rotate_left
        · (intro w hSw; (try dsimp only at hSw); go_simp; all_goals with_reducible rfl)
        (try simp only [Act.put, List.setIfInBounds_toArray, List.set_cons_zero, List.set_cons_succ])
        refine wpAnyH_take (i := 7) (v := ?_) (by rw [List.getElem?_toArray]; rfl) (by kernel_rfl) (by kernel_rfl) (by kernel_rfl) (by intro _ _ _ h; exact h) (Or.inl ⟨by rfl, ?_⟩) (by assumption) ?_
        rotate_left
        · (intro w hSw; (try dsimp only at hSw); go_simp; all_goals with_reducible rfl)
        (try simp only [Act.put, List.setIfInBounds_toArray, List.set_cons_zero, List.set_cons_succ])
        (try simp only [hw, hx])
        refine wpAnyH_ready (rs := [8]) (by kernel_rfl) (by simp) ?_
        refine AllReadyH.cons (by rw [List.getElem?_toArray]; rfl) (fun K hK => ?_) AllReadyH.nil
        go_simp
        refine (CL vx).mono ?_; rintro ee vx ⟨rfl, hbl⟩; (replace XB := XB.trans (hbl.mono XB.size)); (clear hbl)
        (try go_wp2_with fail)
        refine hK.out _ _ ?_ (fun hHeld => ?_)
        · first | exact SK.out _ XB | exact SK.out _ (Below.drew (Below.refl _ _))
        clear hK K
        (try simp only [Act.put, List.setIfInBounds_toArray, List.set_cons_zero, List.set_cons_succ])
        refine wpAnyH_take (i := 9) (v := ?_) (by rw [List.getElem?_toArray]; rfl) (by kernel_rfl) (by kernel_rfl) (by kernel_rfl) (by intro _ _ _ h; exact h) (Or.inl ⟨by rfl, ?_⟩) (by assumption) ?_
        rotate_left
        · (intro w hSw; (try dsimp only at hSw); go_simp; all_goals with_reducible rfl)
        (try simp only [Act.put, List.setIfInBounds_toArray, List.set_cons_zero, List.set_cons_succ])
        refine wpAnyH_take (i := 10) (v := ?_) (by rw [List.getElem?_toArray]; rfl) (by kernel_rfl) (by kernel_rfl) (by kernel_rfl) (by intro _ _ _ h; exact h) (Or.inl ⟨by rfl, ?_⟩) (by assumption) ?_
        rotate_left
        · (intro w hSw; (try dsimp only at hSw); go_simp; all_goals with_reducible rfl)
        (try simp only [Act.put, List.setIfInBounds_toArray, List.set_cons_zero, List.set_cons_succ])
        refine wpAnyH_take (i := 11) (v := ?_) (by rw [List.getElem?_toArray]; rfl) (by kernel_rfl) (by kernel_rfl) (by kernel_rfl) (by intro _ _ _ h; exact h) (Or.inl ⟨by rfl, ?_⟩) (by assumption) ?_
        rotate_left
        · (intro w hSw; (try dsimp only at hSw); go_simp; all_goals with_reducible rfl)
        (try simp only [Act.put, List.setIfInBounds_toArray, List.set_cons_zero, List.set_cons_succ])
        refine wpAnyH_take (i := 12) (v := ?_) (by rw [List.getElem?_toArray]; rfl) (by kernel_rfl) (by kernel_rfl) (by kernel_rfl) (by intro _ _ _ h; exact h) (Or.inl ⟨by rfl, ?_⟩) (by assumption) ?_
        rotate_left
        · (intro w hSw; (try dsimp only at hSw); go_simp; all_goals with_reducible rfl)
        (try simp only [Act.put, List.setIfInBounds_toArray, List.set_cons_zero, List.set_cons_succ])
        refine wpAnyH_take (i := 13) (v := ?_) (by rw [List.getElem?_toArray]; rfl) (by kernel_rfl) (by kernel_rfl) (by kernel_rfl) (by intro _ _ _ h; exact h) (Or.inl ⟨by rfl, ?_⟩) (by assumption) ?_
        rotate_left
        · (intro w hSw; (try dsimp only at hSw); go_simp; all_goals with_reducible rfl)
        (try simp only [Act.put, List.setIfInBounds_toArray, List.set_cons_zero, List.set_cons_succ])
        refine wpAnyH_done (by kernel_rfl) ?_ _
        clear SK
        have hb := XB
        replace OW := own_belK' OW hb
        replace BJ := BJ.trans (hb.mono hjs)
        replace hjs := Nat.le_trans hjs hb.size
        clear hb
        have HO9 : Hid (vx.ownsRow (w.heap.size + 2) 3 1 u9 (L q).length (irow (L q))) := OW
        clear OW N D XB
        go_wp2_with fail
        go_roundw
        case rel => exact ⟨q + 1, HQ.out, by go_num, by rw [HE.out]; exact HO9.out, hjs, BJ⟩
        case measure => have hlt' := HQ.out; simp [intOf]; omega
      rw [h3] at CL
      rw [h3, Bool.true_and] at hP
      by_cases h4 : lsT nu de (c - x1) ≤ rnI s g PM m
      · have HE : Hid (L (q + 1) = L q ++ [x0]) := hY (by rw [hP, decide_eq_true h4])
        clear hP hY HX1 h3
        generalize lsT nu de (c - x1) = T at *
        generalize rnI s g PM m = R at *
        have SK : Hid (∀ w', Below wr.heap.size wr w' → ((fun w' => w'.cell? ⟨w.heap.size + 1, 0, none⟩ = some (.int .i64 nu) ∧ w'.cell? ⟨w.heap.size + 1, 1, none⟩ = some (.int .i64 de) ∧ w'.cell? ⟨b, off + q * 2 + 1, none⟩ = some (.int .i64 x1))) w') := fun w' hw => ⟨(D.below hw).2.1, (D.below hw).2.2.1, (by rw [hw.cell (p := ⟨b, off + q * 2 + 1, none⟩) hbb]; exact c1)⟩
        go_upto_region 8 with fail
        refine wp_region_held_drew (S := (fun w' => w'.cell? ⟨w.heap.size + 1, 0, none⟩ = some (.int .i64 nu) ∧ w'.cell? ⟨w.heap.size + 1, 1, none⟩ = some (.int .i64 de) ∧ w'.cell? ⟨b, off + q * 2 + 1, none⟩ = some (.int .i64 x1))) (by kernel_rfl) ?_ (fun hHeld => ?_)
        · first | exact SK.out _ XB | exact SK.out _ (Below.drew (Below.refl _ _))
        have XB : Below wr.heap.size wr wr.drew := Below.drew (Below.refl _ _)
        generalize wr.drew = vx at *
        refine wpAnyH_take (i := 0) (v := ?_) (by rw [List.getElem?_toArray]; rfl) (by kernel_rfl) (by kernel_rfl) (by kernel_rfl) (by intro _ _ _ h; exact h) (Or.inl ⟨by rfl, ?_⟩) (by assumption) ?_
        rotate_left
        · (intro w hSw; (try dsimp only at hSw); go_simp; all_goals with_reducible rfl)
        (try simp only [Act.put, List.setIfInBounds_toArray, List.set_cons_zero, List.set_cons_succ])
        refine wpAnyH_take (i := 1) (v := ?_) (by rw [List.getElem?_toArray]; rfl) (by kernel_rfl) (by kernel_rfl) (by kernel_rfl) (by intro _ _ _ h; exact h) (Or.inl ⟨by rfl, ?_⟩) (by assumption) ?_
        rotate_left
        · (intro w hSw; (try dsimp only at hSw); go_simp; all_goals with_reducible rfl)
        (try simp only [Act.put, List.setIfInBounds_toArray, List.set_cons_zero, List.set_cons_succ])
        refine wpAnyH_take (i := 2) (v := ?_) (by rw [List.getElem?_toArray]; rfl) (by kernel_rfl) (by kernel_rfl) (by kernel_rfl) (by intro _ _ _ h; exact h) (Or.inl ⟨by rfl, ?_⟩) (by assumption) ?_
        rotate_left
        · (intro w hSw; (try dsimp only at hSw); go_simp; all_goals with_reducible rfl)
        (try simp only [Act.put, List.setIfInBounds_toArray, List.set_cons_zero, List.set_cons_succ])
        refine wpAnyH_take (i := 3) (v := ?_) (by rw [List.getElem?_toArray]; rfl) (by kernel_rfl) (by kernel_rfl) (by kernel_rfl) (by intro _ _ _ h; exact h) (Or.inl ⟨by rfl, ?_⟩) (by assumption) ?_
        rotate_left
        · (intro w hSw; (try dsimp only at hSw); go_simp; all_goals with_reducible rfl)
        (try simp only [Act.put, List.setIfInBounds_toArray, List.set_cons_zero, List.set_cons_succ])
        refine wpAnyH_take (i := 4) (v := ?_) (by rw [List.getElem?_toArray]; rfl) (by kernel_rfl) (by kernel_rfl) (by kernel_rfl) (by intro _ _ _ h; exact h) (Or.inl ⟨by rfl, ?_⟩) (by assumption) ?_
        rotate_left
        · (intro w hSw; (try dsimp only at hSw); go_simp; all_goals with_reducible rfl)
        (try simp only [Act.put, List.setIfInBounds_toArray, List.set_cons_zero, List.set_cons_succ])
        refine wpAnyH_take (i := 5) (v := ?_) (by rw [List.getElem?_toArray]; rfl) (by kernel_rfl) (by kernel_rfl) (by kernel_rfl) (by intro _ _ _ h; exact h) (Or.inl ⟨by rfl, ?_⟩) (by assumption) ?_
        rotate_left
        · (intro w hSw; (try dsimp only at hSw); go_simp; all_goals with_reducible rfl)
        (try simp only [Act.put, List.setIfInBounds_toArray, List.set_cons_zero, List.set_cons_succ])
        refine wpAnyH_take (i := 6) (v := ?_) (by rw [List.getElem?_toArray]; rfl) (by kernel_rfl) (by kernel_rfl) (by kernel_rfl) (by intro _ _ _ h; exact h) (Or.inl ⟨by rfl, ?_⟩) (by assumption) ?_
        rotate_left
        · (intro w hSw; (try dsimp only at hSw); go_simp; all_goals with_reducible rfl)
        (try simp only [Act.put, List.setIfInBounds_toArray, List.set_cons_zero, List.set_cons_succ])
        refine wpAnyH_take (i := 7) (v := ?_) (by rw [List.getElem?_toArray]; rfl) (by kernel_rfl) (by kernel_rfl) (by kernel_rfl) (by intro _ _ _ h; exact h) (Or.inl ⟨by rfl, ?_⟩) (by assumption) ?_
        rotate_left
        · (intro w hSw; (try dsimp only at hSw); go_simp; all_goals with_reducible rfl)
        (try simp only [Act.put, List.setIfInBounds_toArray, List.set_cons_zero, List.set_cons_succ])
        (try simp only [hw, hx])
        refine wpAnyH_ready (rs := [8]) (by kernel_rfl) (by simp) ?_
        refine AllReadyH.cons (by rw [List.getElem?_toArray]; rfl) (fun K hK => ?_) AllReadyH.nil
        go_simp
        refine (CL vx).mono ?_; rintro ee vx ⟨rfl, hbl⟩; (replace XB := XB.trans (hbl.mono XB.size)); (clear hbl)
        (try go_wp2_with fail)
        refine hK.out _ _ ?_ (fun hHeld => ?_)
        · first | exact SK.out _ XB | exact SK.out _ (Below.drew (Below.refl _ _))
        clear hK K
        (try simp only [Act.put, List.setIfInBounds_toArray, List.set_cons_zero, List.set_cons_succ])
        refine wpAnyH_take (i := 9) (v := ?_) (by rw [List.getElem?_toArray]; rfl) (by kernel_rfl) (by kernel_rfl) (by kernel_rfl) (by intro _ _ _ h; exact h) (Or.inl ⟨by rfl, ?_⟩) (by assumption) ?_
        rotate_left
        · (intro w hSw; (try dsimp only at hSw); go_simp; all_goals with_reducible rfl)
        (try simp only [Act.put, List.setIfInBounds_toArray, List.set_cons_zero, List.set_cons_succ])
        refine wpAnyH_take (i := 10) (v := ?_) (by rw [List.getElem?_toArray]; rfl) (by kernel_rfl) (by kernel_rfl) (by kernel_rfl) (by intro _ _ _ h; exact h) (Or.inl ⟨by rfl, ?_⟩) (by assumption) ?_
        rotate_left
        · (intro w hSw; (try dsimp only at hSw); go_simp; all_goals with_reducible rfl)
        (try simp only [Act.put, List.setIfInBounds_toArray, List.set_cons_zero, List.set_cons_succ])
        refine wpAnyH_take (i := 11) (v := ?_) (by rw [List.getElem?_toArray]; rfl) (by kernel_rfl) (by kernel_rfl) (by kernel_rfl) (by intro _ _ _ h; exact h) (Or.inl ⟨by rfl, ?_⟩) (by assumption) ?_
        rotate_left
        · (intro w hSw; (try dsimp only at hSw); go_simp; all_goals with_reducible rfl)
        (try simp only [Act.put, List.setIfInBounds_toArray, List.set_cons_zero, List.set_cons_succ])
        refine wpAnyH_take (i := 12) (v := ?_) (by rw [List.getElem?_toArray]; rfl) (by kernel_rfl) (by kernel_rfl) (by kernel_rfl) (by intro _ _ _ h; exact h) (Or.inl ⟨by rfl, ?_⟩) (by assumption) ?_
        rotate_left
        · (intro w hSw; (try dsimp only at hSw); go_simp; all_goals with_reducible rfl)
        (try simp only [Act.put, List.setIfInBounds_toArray, List.set_cons_zero, List.set_cons_succ])
        refine wpAnyH_take (i := 13) (v := ?_) (by rw [List.getElem?_toArray]; rfl) (by kernel_rfl) (by kernel_rfl) (by kernel_rfl) (by intro _ _ _ h; exact h) (Or.inl ⟨by rfl, ?_⟩) (by assumption) ?_
        rotate_left
        · (intro w hSw; (try dsimp only at hSw); go_simp; all_goals with_reducible rfl)
        (try simp only [Act.put, List.setIfInBounds_toArray, List.set_cons_zero, List.set_cons_succ])
        refine wpAnyH_done (by kernel_rfl) ?_ _
        clear SK
        replace N := N.below XB
        replace HPB : Hid (SrcC vx p (m * 2) (MFSlot PM)) := HPB.out.below XB
        have hb := XB
        replace OW := own_belK' OW hb
        replace BJ := BJ.trans (hb.mono hjs)
        replace hjs := Nat.le_trans hjs hb.size
        clear hb
        have hbx : b < vx.heap.size := Nat.lt_of_lt_of_le hbb XB.size
        have c0' : vx.cell? ⟨b, off + q * 2, none⟩ = some (.int .i64 x0) := by rw [XB.cell (p := ⟨b, off + q * 2, none⟩) hbb]; exact c0
        clear XB D c0 c1 CL
        obtain ⟨n0, n1, n2, n3, n4, n5, n6⟩ := id N
        go_wp2_with fail
        refine (C2 _ HPB.out).mono ?_
        rintro e v3 ⟨rfl, hb⟩
        clear n0 n1 n2 n3 n4 n5 n6
        replace c0' : v3.cell? ⟨b, off + q * 2, none⟩ = some (.int .i64 x0) := by rw [hb.cell (p := ⟨b, off + q * 2, none⟩) hbx]; exact c0'
        replace OW := own_belK' OW hb
        replace BJ := BJ.trans (hb.mono hjs)
        replace hjs := Nat.le_trans hjs hb.size
        clear hb
        clear N HPB
        have hlen' : (L q).length ≤ 64 := by omega
        go_upto_region 6 with (at_builtin; refine add_int rfl _ _ rfl (w.heap.size + 2) (L q) _ rfl OW rfl hlen' hjs ?_; intro v' w9 O9 hg9 hn9)
        have HO9 : Hid (w9.ownsRow (w.heap.size + 2) 3 1 v' (L q ++ [x0]).length (irow (L q ++ [x0]))) := O9
        replace BJ := BJ.trans (grown_belowK OW hg9 hjs)
        replace hjs : w.heap.size + 2 ≤ w9.heap.size := Nat.le_trans hjs hg9.size
        clear O9 OW hg9 hn9 c0'
        go_wp2_with fail
        go_roundw
        case rel => exact ⟨q + 1, HQ.out, by go_num, by rw [HE.out]; exact HO9.out, hjs, BJ⟩
        case measure => have hlt' := HQ.out; simp [intOf]; omega
      · have HE : Hid (L (q + 1) = L q) := HX1 (by rw [hP, decide_eq_false h4])
        clear hP hY HX1 h3
        generalize lsT nu de (c - x1) = T at *
        generalize rnI s g PM m = R at *
        have SK : Hid (∀ w', Below wr.heap.size wr w' → ((fun w' => w'.cell? ⟨w.heap.size + 1, 0, none⟩ = some (.int .i64 nu) ∧ w'.cell? ⟨w.heap.size + 1, 1, none⟩ = some (.int .i64 de) ∧ w'.cell? ⟨b, off + q * 2 + 1, none⟩ = some (.int .i64 x1))) w') := fun w' hw => ⟨(D.below hw).2.1, (D.below hw).2.2.1, (by rw [hw.cell (p := ⟨b, off + q * 2 + 1, none⟩) hbb]; exact c1)⟩
        go_upto_region 8 with fail
        refine wp_region_held_drew (S := (fun w' => w'.cell? ⟨w.heap.size + 1, 0, none⟩ = some (.int .i64 nu) ∧ w'.cell? ⟨w.heap.size + 1, 1, none⟩ = some (.int .i64 de) ∧ w'.cell? ⟨b, off + q * 2 + 1, none⟩ = some (.int .i64 x1))) (by kernel_rfl) ?_ (fun hHeld => ?_)
        · first | exact SK.out _ XB | exact SK.out _ (Below.drew (Below.refl _ _))
        have XB : Below wr.heap.size wr wr.drew := Below.drew (Below.refl _ _)
        generalize wr.drew = vx at *
        refine wpAnyH_take (i := 0) (v := ?_) (by rw [List.getElem?_toArray]; rfl) (by kernel_rfl) (by kernel_rfl) (by kernel_rfl) (by intro _ _ _ h; exact h) (Or.inl ⟨by rfl, ?_⟩) (by assumption) ?_
        rotate_left
        · (intro w hSw; (try dsimp only at hSw); go_simp; all_goals with_reducible rfl)
        (try simp only [Act.put, List.setIfInBounds_toArray, List.set_cons_zero, List.set_cons_succ])
        refine wpAnyH_take (i := 1) (v := ?_) (by rw [List.getElem?_toArray]; rfl) (by kernel_rfl) (by kernel_rfl) (by kernel_rfl) (by intro _ _ _ h; exact h) (Or.inl ⟨by rfl, ?_⟩) (by assumption) ?_
        rotate_left
        · (intro w hSw; (try dsimp only at hSw); go_simp; all_goals with_reducible rfl)
        (try simp only [Act.put, List.setIfInBounds_toArray, List.set_cons_zero, List.set_cons_succ])
        refine wpAnyH_take (i := 2) (v := ?_) (by rw [List.getElem?_toArray]; rfl) (by kernel_rfl) (by kernel_rfl) (by kernel_rfl) (by intro _ _ _ h; exact h) (Or.inl ⟨by rfl, ?_⟩) (by assumption) ?_
        rotate_left
        · (intro w hSw; (try dsimp only at hSw); go_simp; all_goals with_reducible rfl)
        (try simp only [Act.put, List.setIfInBounds_toArray, List.set_cons_zero, List.set_cons_succ])
        refine wpAnyH_take (i := 3) (v := ?_) (by rw [List.getElem?_toArray]; rfl) (by kernel_rfl) (by kernel_rfl) (by kernel_rfl) (by intro _ _ _ h; exact h) (Or.inl ⟨by rfl, ?_⟩) (by assumption) ?_
        rotate_left
        · (intro w hSw; (try dsimp only at hSw); go_simp; all_goals with_reducible rfl)
        (try simp only [Act.put, List.setIfInBounds_toArray, List.set_cons_zero, List.set_cons_succ])
        refine wpAnyH_take (i := 4) (v := ?_) (by rw [List.getElem?_toArray]; rfl) (by kernel_rfl) (by kernel_rfl) (by kernel_rfl) (by intro _ _ _ h; exact h) (Or.inl ⟨by rfl, ?_⟩) (by assumption) ?_
        rotate_left
        · (intro w hSw; (try dsimp only at hSw); go_simp; all_goals with_reducible rfl)
        (try simp only [Act.put, List.setIfInBounds_toArray, List.set_cons_zero, List.set_cons_succ])
        refine wpAnyH_take (i := 5) (v := ?_) (by rw [List.getElem?_toArray]; rfl) (by kernel_rfl) (by kernel_rfl) (by kernel_rfl) (by intro _ _ _ h; exact h) (Or.inl ⟨by rfl, ?_⟩) (by assumption) ?_
        rotate_left
        · (intro w hSw; (try dsimp only at hSw); go_simp; all_goals with_reducible rfl)
        (try simp only [Act.put, List.setIfInBounds_toArray, List.set_cons_zero, List.set_cons_succ])
        refine wpAnyH_take (i := 6) (v := ?_) (by rw [List.getElem?_toArray]; rfl) (by kernel_rfl) (by kernel_rfl) (by kernel_rfl) (by intro _ _ _ h; exact h) (Or.inl ⟨by rfl, ?_⟩) (by assumption) ?_
        rotate_left
        · (intro w hSw; (try dsimp only at hSw); go_simp; all_goals with_reducible rfl)
        (try simp only [Act.put, List.setIfInBounds_toArray, List.set_cons_zero, List.set_cons_succ])
        refine wpAnyH_take (i := 7) (v := ?_) (by rw [List.getElem?_toArray]; rfl) (by kernel_rfl) (by kernel_rfl) (by kernel_rfl) (by intro _ _ _ h; exact h) (Or.inl ⟨by rfl, ?_⟩) (by assumption) ?_
        rotate_left
        · (intro w hSw; (try dsimp only at hSw); go_simp; all_goals with_reducible rfl)
        (try simp only [Act.put, List.setIfInBounds_toArray, List.set_cons_zero, List.set_cons_succ])
        (try simp only [hw, hx])
        refine wpAnyH_ready (rs := [8]) (by kernel_rfl) (by simp) ?_
        refine AllReadyH.cons (by rw [List.getElem?_toArray]; rfl) (fun K hK => ?_) AllReadyH.nil
        go_simp
        refine (CL vx).mono ?_; rintro ee vx ⟨rfl, hbl⟩; (replace XB := XB.trans (hbl.mono XB.size)); (clear hbl)
        (try go_wp2_with fail)
        refine hK.out _ _ ?_ (fun hHeld => ?_)
        · first | exact SK.out _ XB | exact SK.out _ (Below.drew (Below.refl _ _))
        clear hK K
        (try simp only [Act.put, List.setIfInBounds_toArray, List.set_cons_zero, List.set_cons_succ])
        refine wpAnyH_take (i := 9) (v := ?_) (by rw [List.getElem?_toArray]; rfl) (by kernel_rfl) (by kernel_rfl) (by kernel_rfl) (by intro _ _ _ h; exact h) (Or.inl ⟨by rfl, ?_⟩) (by assumption) ?_
        rotate_left
        · (intro w hSw; (try dsimp only at hSw); go_simp; all_goals with_reducible rfl)
        (try simp only [Act.put, List.setIfInBounds_toArray, List.set_cons_zero, List.set_cons_succ])
        refine wpAnyH_take (i := 10) (v := ?_) (by rw [List.getElem?_toArray]; rfl) (by kernel_rfl) (by kernel_rfl) (by kernel_rfl) (by intro _ _ _ h; exact h) (Or.inl ⟨by rfl, ?_⟩) (by assumption) ?_
        rotate_left
        · (intro w hSw; (try dsimp only at hSw); go_simp; all_goals with_reducible rfl)
        (try simp only [Act.put, List.setIfInBounds_toArray, List.set_cons_zero, List.set_cons_succ])
        refine wpAnyH_take (i := 11) (v := ?_) (by rw [List.getElem?_toArray]; rfl) (by kernel_rfl) (by kernel_rfl) (by kernel_rfl) (by intro _ _ _ h; exact h) (Or.inl ⟨by rfl, ?_⟩) (by assumption) ?_
        rotate_left
        · (intro w hSw; (try dsimp only at hSw); go_simp; all_goals with_reducible rfl)
        (try simp only [Act.put, List.setIfInBounds_toArray, List.set_cons_zero, List.set_cons_succ])
        refine wpAnyH_take (i := 12) (v := ?_) (by rw [List.getElem?_toArray]; rfl) (by kernel_rfl) (by kernel_rfl) (by kernel_rfl) (by intro _ _ _ h; exact h) (Or.inl ⟨by rfl, ?_⟩) (by assumption) ?_
        rotate_left
        · (intro w hSw; (try dsimp only at hSw); go_simp; all_goals with_reducible rfl)
        (try simp only [Act.put, List.setIfInBounds_toArray, List.set_cons_zero, List.set_cons_succ])
        refine wpAnyH_take (i := 13) (v := ?_) (by rw [List.getElem?_toArray]; rfl) (by kernel_rfl) (by kernel_rfl) (by kernel_rfl) (by intro _ _ _ h; exact h) (Or.inl ⟨by rfl, ?_⟩) (by assumption) ?_
        rotate_left
        · (intro w hSw; (try dsimp only at hSw); go_simp; all_goals with_reducible rfl)
        (try simp only [Act.put, List.setIfInBounds_toArray, List.set_cons_zero, List.set_cons_succ])
        refine wpAnyH_done (by kernel_rfl) ?_ _
        clear SK
        replace N := N.below XB
        replace HPB : Hid (SrcC vx p (m * 2) (MFSlot PM)) := HPB.out.below XB
        have hb := XB
        replace OW := own_belK' OW hb
        replace BJ := BJ.trans (hb.mono hjs)
        replace hjs := Nat.le_trans hjs hb.size
        clear hb
        clear XB D c0 c1 CL
        obtain ⟨n0, n1, n2, n3, n4, n5, n6⟩ := id N
        go_wp2_with fail
        refine (C2 _ HPB.out).mono ?_
        rintro e v3 ⟨rfl, hb⟩
        clear n0 n1 n2 n3 n4 n5 n6
        replace OW := own_belK' OW hb
        replace BJ := BJ.trans (hb.mono hjs)
        replace hjs := Nat.le_trans hjs hb.size
        clear hb
        clear N HPB
        have HO9 : Hid (v3.ownsRow (w.heap.size + 2) 3 1 u9 (L q).length (irow (L q))) := OW
        clear OW
        go_wp2_with fail
        go_roundw
        case rel => exact ⟨q + 1, HQ.out, by go_num, by rw [HE.out]; exact HO9.out, hjs, BJ⟩
        case measure => have hlt' := HQ.out; simp [intOf]; omega
    · have hkn : q = n := by omega
      subst hkn
      have hli : ¬ (q : Int) < (q : Int) := by omega
      clear HAT HPP HY HX HLN HS HP
      go_wp2_with fail
      go_ret
      exact ⟨_, rfl, own_baseI16 OW (Nat.le_add_right w.heap.size 2), B⟩
end Go.Proofs.YtdahabbdhjgpdaaDoor
namespace Go.Proofs.YtdahabbdhjgpdaaDoor
open Go.RowKit
set_option linter.unusedVariables false
theorem emp_size {s : ByteArray} (h : s.toList = []) : s.size = 0 := by
  rw [ByteArray.toList_eq] at h
  cases s with
  | mk d => simp at h; subst h; rfl
theorem msg_long {k fr tuu no lo hi sl : Int} {s : ByteArray} (h : ¬ s.size ≤ 24) : msgB k fr tuu no lo hi sl s = false := by
  have h0 : ¬ s.toList = [] := fun e => h (by rw [emp_size e]; omega)
  simp [msgB, emp, h0, h]
theorem msg_from {k fr tuu no lo hi sl : Int} {s : ByteArray} (h : nodB fr = false) : msgB k fr tuu no lo hi sl s = false := by
  simp [msgB, adB, h]
set_option maxHeartbeats 4000000 in
theorem specMsgOk_bad (k fr tuu no lo hi sl : Int) (s : ByteArray) (w : World) (hs : s.size ≤ 1048576) (h : nodB fr = false ∨ ¬ s.size ≤ 24) :
    Calls Tryd.prog 52 #[.agg #[.int .i64 k, .int .i64 fr, .int .i64 tuu, .int .i64 no, .int .i64 lo, .int .i64 hi, .int .i64 sl, .string s]] w fun e w' => e = .returned (.bool (msgB k fr tuu no lo hi sl s)) ∧ Below w.heap.size w w' := by
  cases h1 : nodB fr
  · go_enter Tryd.func52, Tryd.ntmps52
    go_wp2_with fail
    refine (l4Node_any _ _).mono ?_
    rintro e w' ⟨rfl, rfl⟩
    rw [h1]
    go_wp2_with fail
    go_ret
    exact ⟨ret_bool (msg_from h1).symm, (by repeat (first | refine Below.setCell ?_ (by first | (simp; done) | (simp; omega) | omega) _ | refine Below.alloc ?_ (by first | (simp; done) | (simp; omega) | omega) _ | exact Below.refl _ _))⟩
  · have hb : ¬ s.size ≤ 24 := by
      rcases h with h | h
      · rw [h1] at h; cases h
      · exact h
    have hbi : 24 < (s.size : Int) := by omega
    go_enter Tryd.func52, Tryd.ntmps52
    go_wp2_with fail
    refine (l4Node_any _ _).mono ?_
    rintro e w' ⟨rfl, rfl⟩
    rw [h1]
    go_wp2_with fail
    go_ret
    exact ⟨ret_bool (msg_long hb).symm, (by repeat (first | refine Below.setCell ?_ (by first | (simp; done) | (simp; omega) | omega) _ | refine Below.alloc ?_ (by first | (simp; done) | (simp; omega) | omega) _ | exact Below.refl _ _))⟩

set_option maxHeartbeats 8000000 in
theorem specMsgOk_1 (fr tuu no lo hi sl : Int) (s : ByteArray) (w : World) (h1 : nodB fr = true) (hz : s.size ≤ 24) :
    Calls Tryd.prog 52 #[.agg #[.int .i64 1, .int .i64 fr, .int .i64 tuu, .int .i64 no, .int .i64 lo, .int .i64 hi, .int .i64 sl, .string s]] w fun e w' => e = .returned (.bool (msgB 1 fr tuu no lo hi sl s)) ∧ Below w.heap.size w w' := by
  have hzi : ¬ 24 < (s.size : Int) := by omega
  cases h2 : nodB tuu
  · go_enter Tryd.func52, Tryd.ntmps52
    go_wp2_with fail
    refine (l4Node_any _ _).mono ?_
    rintro e w' ⟨rfl, rfl⟩
    rw [h1]
    go_wp2_with fail
    refine (l4Node_any _ _).mono ?_
    rintro e w' ⟨rfl, rfl⟩
    rw [h2]
    go_wp2_with fail
    all_goals go_ret
    all_goals exact ⟨ret_bool (by rw [Bool.eq_iff_iff]; simp [msgB, adB, emp, *]; try omega), (by repeat (first | refine Below.setCell ?_ (by first | (simp; done) | (simp; omega) | omega) _ | refine Below.alloc ?_ (by first | (simp; done) | (simp; omega) | omega) _ | exact Below.refl _ _))⟩
  · cases h3 : (tuu != fr)
    · have h3' : tuu = fr := by simpa using h3
      subst h3'
      go_enter Tryd.func52, Tryd.ntmps52
      go_wp2_with fail
      refine (l4Node_any _ _).mono ?_
      rintro e w' ⟨rfl, rfl⟩
      rw [h1]
      go_wp2_with fail
      refine (l4Node_any _ _).mono ?_
      rintro e w' ⟨rfl, rfl⟩
      rw [h2]
      go_wp2_with fail
      all_goals go_ret
      all_goals exact ⟨ret_bool (by rw [Bool.eq_iff_iff]; simp [msgB, adB, emp, *]; try omega), (by repeat (first | refine Below.setCell ?_ (by first | (simp; done) | (simp; omega) | omega) _ | refine Below.alloc ?_ (by first | (simp; done) | (simp; omega) | omega) _ | exact Below.refl _ _))⟩
    · have h3' : ¬ fr = tuu := by simp at h3; omega
      cases h4 : decide (0 ≤ no ∧ no ≤ 100000999)
      · have h4' : ¬ (0 ≤ no ∧ no ≤ 100000999) := of_decide_eq_false h4
        go_enter Tryd.func52, Tryd.ntmps52
        go_wp2_with fail
        refine (l4Node_any _ _).mono ?_
        rintro e w' ⟨rfl, rfl⟩
        rw [h1]
        go_wp2_with fail
        refine (l4Node_any _ _).mono ?_
        rintro e w' ⟨rfl, rfl⟩
        rw [h2]
        go_wp2_with fail
        refine (l1In_any _ _ _ _).mono ?_
        rintro e w' ⟨rfl, rfl⟩
        rw [h4]
        clear h4'
        go_wp2_with fail
        all_goals go_ret
        all_goals exact ⟨ret_bool (by rw [Bool.eq_iff_iff]; simp [msgB, adB, emp, *]; try omega), (by repeat (first | refine Below.setCell ?_ (by first | (simp; done) | (simp; omega) | omega) _ | refine Below.alloc ?_ (by first | (simp; done) | (simp; omega) | omega) _ | exact Below.refl _ _))⟩
      · have h4' : 0 ≤ no ∧ no ≤ 100000999 := of_decide_eq_true h4
        by_cases h5 : sl = 0
        · subst h5
          by_cases h6 : s.toList = []
          · go_enter Tryd.func52, Tryd.ntmps52
            go_wp2_with fail
            refine (l4Node_any _ _).mono ?_
            rintro e w' ⟨rfl, rfl⟩
            rw [h1]
            go_wp2_with fail
            refine (l4Node_any _ _).mono ?_
            rintro e w' ⟨rfl, rfl⟩
            rw [h2]
            go_wp2_with fail
            refine (l1In_any _ _ _ _).mono ?_
            rintro e w' ⟨rfl, rfl⟩
            rw [h4]
            go_wp2_with fail
            all_goals go_ret
            all_goals exact ⟨ret_bool (by rw [Bool.eq_iff_iff]; simp [msgB, adB, emp, *]; try omega), (by repeat (first | refine Below.setCell ?_ (by first | (simp; done) | (simp; omega) | omega) _ | refine Below.alloc ?_ (by first | (simp; done) | (simp; omega) | omega) _ | exact Below.refl _ _))⟩
          · go_enter Tryd.func52, Tryd.ntmps52
            go_wp2_with fail
            refine (l4Node_any _ _).mono ?_
            rintro e w' ⟨rfl, rfl⟩
            rw [h1]
            go_wp2_with fail
            refine (l4Node_any _ _).mono ?_
            rintro e w' ⟨rfl, rfl⟩
            rw [h2]
            go_wp2_with fail
            refine (l1In_any _ _ _ _).mono ?_
            rintro e w' ⟨rfl, rfl⟩
            rw [h4]
            go_wp2_with fail
            all_goals go_ret
            all_goals exact ⟨ret_bool (by rw [Bool.eq_iff_iff]; simp [msgB, adB, emp, *]; try omega), (by repeat (first | refine Below.setCell ?_ (by first | (simp; done) | (simp; omega) | omega) _ | refine Below.alloc ?_ (by first | (simp; done) | (simp; omega) | omega) _ | exact Below.refl _ _))⟩
        · have h5b : (sl == 0) = false := by rw [beq_eq_false_iff_ne]; exact h5
          go_enter Tryd.func52, Tryd.ntmps52
          go_wp2_with fail
          refine (l4Node_any _ _).mono ?_
          rintro e w' ⟨rfl, rfl⟩
          rw [h1]
          go_wp2_with fail
          refine (l4Node_any _ _).mono ?_
          rintro e w' ⟨rfl, rfl⟩
          rw [h2]
          go_wp2_with fail
          refine (l1In_any _ _ _ _).mono ?_
          rintro e w' ⟨rfl, rfl⟩
          rw [h4]
          go_wp2_with fail
          all_goals go_ret
          all_goals exact ⟨ret_bool (by rw [Bool.eq_iff_iff]; simp [msgB, adB, emp, *]; try omega), (by repeat (first | refine Below.setCell ?_ (by first | (simp; done) | (simp; omega) | omega) _ | refine Below.alloc ?_ (by first | (simp; done) | (simp; omega) | omega) _ | exact Below.refl _ _))⟩
set_option maxHeartbeats 8000000 in
theorem specMsgOk_2 (fr tuu no lo hi sl : Int) (s : ByteArray) (w : World) (h1 : nodB fr = true) (hz : s.size ≤ 24) :
    Calls Tryd.prog 52 #[.agg #[.int .i64 2, .int .i64 fr, .int .i64 tuu, .int .i64 no, .int .i64 lo, .int .i64 hi, .int .i64 sl, .string s]] w fun e w' => e = .returned (.bool (msgB 2 fr tuu no lo hi sl s)) ∧ Below w.heap.size w w' := by
  have hzi : ¬ 24 < (s.size : Int) := by omega
  cases h2 : nodB tuu
  · go_enter Tryd.func52, Tryd.ntmps52
    go_wp2_with fail
    refine (l4Node_any _ _).mono ?_
    rintro e w' ⟨rfl, rfl⟩
    rw [h1]
    go_wp2_with fail
    refine (l4Node_any _ _).mono ?_
    rintro e w' ⟨rfl, rfl⟩
    rw [h2]
    go_wp2_with fail
    all_goals go_ret
    all_goals exact ⟨ret_bool (by rw [Bool.eq_iff_iff]; simp [msgB, adB, emp, *]; try omega), (by repeat (first | refine Below.setCell ?_ (by first | (simp; done) | (simp; omega) | omega) _ | refine Below.alloc ?_ (by first | (simp; done) | (simp; omega) | omega) _ | exact Below.refl _ _))⟩
  · cases h3 : (tuu != fr)
    · have h3' : tuu = fr := by simpa using h3
      subst h3'
      go_enter Tryd.func52, Tryd.ntmps52
      go_wp2_with fail
      refine (l4Node_any _ _).mono ?_
      rintro e w' ⟨rfl, rfl⟩
      rw [h1]
      go_wp2_with fail
      refine (l4Node_any _ _).mono ?_
      rintro e w' ⟨rfl, rfl⟩
      rw [h2]
      go_wp2_with fail
      all_goals go_ret
      all_goals exact ⟨ret_bool (by rw [Bool.eq_iff_iff]; simp [msgB, adB, emp, *]; try omega), (by repeat (first | refine Below.setCell ?_ (by first | (simp; done) | (simp; omega) | omega) _ | refine Below.alloc ?_ (by first | (simp; done) | (simp; omega) | omega) _ | exact Below.refl _ _))⟩
    · have h3' : ¬ fr = tuu := by simp at h3; omega
      cases h4 : decide (0 ≤ no ∧ no ≤ 100000999)
      · have h4' : ¬ (0 ≤ no ∧ no ≤ 100000999) := of_decide_eq_false h4
        go_enter Tryd.func52, Tryd.ntmps52
        go_wp2_with fail
        refine (l4Node_any _ _).mono ?_
        rintro e w' ⟨rfl, rfl⟩
        rw [h1]
        go_wp2_with fail
        refine (l4Node_any _ _).mono ?_
        rintro e w' ⟨rfl, rfl⟩
        rw [h2]
        go_wp2_with fail
        refine (l1In_any _ _ _ _).mono ?_
        rintro e w' ⟨rfl, rfl⟩
        rw [h4]
        clear h4'
        go_wp2_with fail
        all_goals go_ret
        all_goals exact ⟨ret_bool (by rw [Bool.eq_iff_iff]; simp [msgB, adB, emp, *]; try omega), (by repeat (first | refine Below.setCell ?_ (by first | (simp; done) | (simp; omega) | omega) _ | refine Below.alloc ?_ (by first | (simp; done) | (simp; omega) | omega) _ | exact Below.refl _ _))⟩
      · have h4' : 0 ≤ no ∧ no ≤ 100000999 := of_decide_eq_true h4
        by_cases h5 : sl = 0
        · subst h5
          by_cases h6 : s.toList = []
          · go_enter Tryd.func52, Tryd.ntmps52
            go_wp2_with fail
            refine (l4Node_any _ _).mono ?_
            rintro e w' ⟨rfl, rfl⟩
            rw [h1]
            go_wp2_with fail
            refine (l4Node_any _ _).mono ?_
            rintro e w' ⟨rfl, rfl⟩
            rw [h2]
            go_wp2_with fail
            refine (l1In_any _ _ _ _).mono ?_
            rintro e w' ⟨rfl, rfl⟩
            rw [h4]
            go_wp2_with fail
            refine (specIvalOk_any _ _ _).mono ?_
            rintro e w2 ⟨rfl, hb⟩
            go_wp2_with fail
            go_ret
            exact ⟨ret_bool (by simp [msgB, adB, emp, *]), Below.trans (by repeat (first | refine Below.setCell ?_ (by first | (simp; done) | (simp; omega) | omega) _ | refine Below.alloc ?_ (by first | (simp; done) | (simp; omega) | omega) _ | exact Below.refl _ _)) (hb.mono (by simp; omega))⟩
          · go_enter Tryd.func52, Tryd.ntmps52
            go_wp2_with fail
            refine (l4Node_any _ _).mono ?_
            rintro e w' ⟨rfl, rfl⟩
            rw [h1]
            go_wp2_with fail
            refine (l4Node_any _ _).mono ?_
            rintro e w' ⟨rfl, rfl⟩
            rw [h2]
            go_wp2_with fail
            refine (l1In_any _ _ _ _).mono ?_
            rintro e w' ⟨rfl, rfl⟩
            rw [h4]
            go_wp2_with fail
            all_goals go_ret
            all_goals exact ⟨ret_bool (by rw [Bool.eq_iff_iff]; simp [msgB, adB, emp, *]; try omega), (by repeat (first | refine Below.setCell ?_ (by first | (simp; done) | (simp; omega) | omega) _ | refine Below.alloc ?_ (by first | (simp; done) | (simp; omega) | omega) _ | exact Below.refl _ _))⟩
        · have h5b : (sl == 0) = false := by rw [beq_eq_false_iff_ne]; exact h5
          go_enter Tryd.func52, Tryd.ntmps52
          go_wp2_with fail
          refine (l4Node_any _ _).mono ?_
          rintro e w' ⟨rfl, rfl⟩
          rw [h1]
          go_wp2_with fail
          refine (l4Node_any _ _).mono ?_
          rintro e w' ⟨rfl, rfl⟩
          rw [h2]
          go_wp2_with fail
          refine (l1In_any _ _ _ _).mono ?_
          rintro e w' ⟨rfl, rfl⟩
          rw [h4]
          go_wp2_with fail
          all_goals go_ret
          all_goals exact ⟨ret_bool (by rw [Bool.eq_iff_iff]; simp [msgB, adB, emp, *]; try omega), (by repeat (first | refine Below.setCell ?_ (by first | (simp; done) | (simp; omega) | omega) _ | refine Below.alloc ?_ (by first | (simp; done) | (simp; omega) | omega) _ | exact Below.refl _ _))⟩
set_option maxHeartbeats 8000000 in
theorem specMsgOk_3 (fr tuu no lo hi sl : Int) (s : ByteArray) (w : World) (h1 : nodB fr = true) (hz : s.size ≤ 24) :
    Calls Tryd.prog 52 #[.agg #[.int .i64 3, .int .i64 fr, .int .i64 tuu, .int .i64 no, .int .i64 lo, .int .i64 hi, .int .i64 sl, .string s]] w fun e w' => e = .returned (.bool (msgB 3 fr tuu no lo hi sl s)) ∧ Below w.heap.size w w' := by
  have hzi : ¬ 24 < (s.size : Int) := by omega
  have nz : nodB 0 = true := by decide
  cases h2 : nodB tuu
  · go_enter Tryd.func52, Tryd.ntmps52
    go_wp2_with fail
    refine (l4Node_any _ _).mono ?_
    rintro e w' ⟨rfl, rfl⟩
    rw [h1]
    go_wp2_with fail
    refine (l4Node_any _ _).mono ?_
    rintro e w' ⟨rfl, rfl⟩
    rw [h2]
    by_cases t0 : tuu = 0
    · by_cases n0 : no = 0
      · by_cases l0 : lo = 0
        · by_cases g0 : hi = 0
          · subst l0 g0
            go_wp2_with fail
            refine (l1In_any _ _ _ _).mono ?_
            rintro e w' ⟨rfl, rfl⟩
            go_wp2_with fail
            go_ret
            exact ⟨ret_bool (by rw [Bool.eq_iff_iff]; simp [msgB, *]; try omega), (by repeat (first | refine Below.setCell ?_ (by first | (simp; done) | (simp; omega) | omega) _ | refine Below.alloc ?_ (by first | (simp; done) | (simp; omega) | omega) _ | exact Below.refl _ _))⟩
          · subst l0
            go_wp2_with fail
            go_ret
            exact ⟨ret_bool (by rw [Bool.eq_iff_iff]; simp [msgB, *]; try omega), (by repeat (first | refine Below.setCell ?_ (by first | (simp; done) | (simp; omega) | omega) _ | refine Below.alloc ?_ (by first | (simp; done) | (simp; omega) | omega) _ | exact Below.refl _ _))⟩
        · go_wp2_with fail
          go_ret
          exact ⟨ret_bool (by rw [Bool.eq_iff_iff]; simp [msgB, *]; try omega), (by repeat (first | refine Below.setCell ?_ (by first | (simp; done) | (simp; omega) | omega) _ | refine Below.alloc ?_ (by first | (simp; done) | (simp; omega) | omega) _ | exact Below.refl _ _))⟩
      · have n0b : (no == 0) = false := by rw [beq_eq_false_iff_ne]; exact n0
        go_wp2_with fail
        go_ret
        exact ⟨ret_bool (by rw [Bool.eq_iff_iff]; simp [msgB, *]; try omega), (by repeat (first | refine Below.setCell ?_ (by first | (simp; done) | (simp; omega) | omega) _ | refine Below.alloc ?_ (by first | (simp; done) | (simp; omega) | omega) _ | exact Below.refl _ _))⟩
    · have t0b : (tuu == 0) = false := by rw [beq_eq_false_iff_ne]; exact t0
      go_wp2_with fail
      go_ret
      exact ⟨ret_bool (by rw [Bool.eq_iff_iff]; simp [msgB, *]; try omega), (by repeat (first | refine Below.setCell ?_ (by first | (simp; done) | (simp; omega) | omega) _ | refine Below.alloc ?_ (by first | (simp; done) | (simp; omega) | omega) _ | exact Below.refl _ _))⟩
  · cases h3 : (tuu != fr)
    · have h3' : tuu = fr := by simpa using h3
      subst h3'
      go_enter Tryd.func52, Tryd.ntmps52
      go_wp2_with fail
      refine (l4Node_any _ _).mono ?_
      rintro e w' ⟨rfl, rfl⟩
      rw [h1]
      go_wp2_with fail
      refine (l4Node_any _ _).mono ?_
      rintro e w' ⟨rfl, rfl⟩
      rw [h2]
      by_cases t0 : tuu = 0
      · by_cases n0 : no = 0
        · by_cases l0 : lo = 0
          · by_cases g0 : hi = 0
            · subst l0 g0
              go_wp2_with fail
              refine (l1In_any _ _ _ _).mono ?_
              rintro e w' ⟨rfl, rfl⟩
              go_wp2_with fail
              go_ret
              exact ⟨ret_bool (by rw [Bool.eq_iff_iff]; simp [msgB, *]; try omega), (by repeat (first | refine Below.setCell ?_ (by first | (simp; done) | (simp; omega) | omega) _ | refine Below.alloc ?_ (by first | (simp; done) | (simp; omega) | omega) _ | exact Below.refl _ _))⟩
            · subst l0
              go_wp2_with fail
              go_ret
              exact ⟨ret_bool (by rw [Bool.eq_iff_iff]; simp [msgB, *]; try omega), (by repeat (first | refine Below.setCell ?_ (by first | (simp; done) | (simp; omega) | omega) _ | refine Below.alloc ?_ (by first | (simp; done) | (simp; omega) | omega) _ | exact Below.refl _ _))⟩
          · go_wp2_with fail
            go_ret
            exact ⟨ret_bool (by rw [Bool.eq_iff_iff]; simp [msgB, *]; try omega), (by repeat (first | refine Below.setCell ?_ (by first | (simp; done) | (simp; omega) | omega) _ | refine Below.alloc ?_ (by first | (simp; done) | (simp; omega) | omega) _ | exact Below.refl _ _))⟩
        · have n0b : (no == 0) = false := by rw [beq_eq_false_iff_ne]; exact n0
          go_wp2_with fail
          go_ret
          exact ⟨ret_bool (by rw [Bool.eq_iff_iff]; simp [msgB, *]; try omega), (by repeat (first | refine Below.setCell ?_ (by first | (simp; done) | (simp; omega) | omega) _ | refine Below.alloc ?_ (by first | (simp; done) | (simp; omega) | omega) _ | exact Below.refl _ _))⟩
      · have t0b : (tuu == 0) = false := by rw [beq_eq_false_iff_ne]; exact t0
        go_wp2_with fail
        go_ret
        exact ⟨ret_bool (by rw [Bool.eq_iff_iff]; simp [msgB, *]; try omega), (by repeat (first | refine Below.setCell ?_ (by first | (simp; done) | (simp; omega) | omega) _ | refine Below.alloc ?_ (by first | (simp; done) | (simp; omega) | omega) _ | exact Below.refl _ _))⟩
    · have h3' : ¬ fr = tuu := by simp at h3; omega
      cases h4 : decide (0 ≤ no ∧ no ≤ 100000999)
      · have h4' : ¬ (0 ≤ no ∧ no ≤ 100000999) := of_decide_eq_false h4
        go_enter Tryd.func52, Tryd.ntmps52
        go_wp2_with fail
        refine (l4Node_any _ _).mono ?_
        rintro e w' ⟨rfl, rfl⟩
        rw [h1]
        go_wp2_with fail
        refine (l4Node_any _ _).mono ?_
        rintro e w' ⟨rfl, rfl⟩
        rw [h2]
        go_wp2_with fail
        refine (l1In_any _ _ _ _).mono ?_
        rintro e w' ⟨rfl, rfl⟩
        rw [h4]
        clear h4'
        by_cases t0 : tuu = 0
        · by_cases n0 : no = 0
          · by_cases l0 : lo = 0
            · by_cases g0 : hi = 0
              · subst l0 g0
                go_wp2_with fail
                refine (l1In_any _ _ _ _).mono ?_
                rintro e w' ⟨rfl, rfl⟩
                go_wp2_with fail
                go_ret
                exact ⟨ret_bool (by rw [Bool.eq_iff_iff]; simp [msgB, *]; try omega), (by repeat (first | refine Below.setCell ?_ (by first | (simp; done) | (simp; omega) | omega) _ | refine Below.alloc ?_ (by first | (simp; done) | (simp; omega) | omega) _ | exact Below.refl _ _))⟩
              · subst l0
                go_wp2_with fail
                go_ret
                exact ⟨ret_bool (by rw [Bool.eq_iff_iff]; simp [msgB, *]; try omega), (by repeat (first | refine Below.setCell ?_ (by first | (simp; done) | (simp; omega) | omega) _ | refine Below.alloc ?_ (by first | (simp; done) | (simp; omega) | omega) _ | exact Below.refl _ _))⟩
            · go_wp2_with fail
              go_ret
              exact ⟨ret_bool (by rw [Bool.eq_iff_iff]; simp [msgB, *]; try omega), (by repeat (first | refine Below.setCell ?_ (by first | (simp; done) | (simp; omega) | omega) _ | refine Below.alloc ?_ (by first | (simp; done) | (simp; omega) | omega) _ | exact Below.refl _ _))⟩
          · have n0b : (no == 0) = false := by rw [beq_eq_false_iff_ne]; exact n0
            go_wp2_with fail
            go_ret
            exact ⟨ret_bool (by rw [Bool.eq_iff_iff]; simp [msgB, *]; try omega), (by repeat (first | refine Below.setCell ?_ (by first | (simp; done) | (simp; omega) | omega) _ | refine Below.alloc ?_ (by first | (simp; done) | (simp; omega) | omega) _ | exact Below.refl _ _))⟩
        · have t0b : (tuu == 0) = false := by rw [beq_eq_false_iff_ne]; exact t0
          go_wp2_with fail
          go_ret
          exact ⟨ret_bool (by rw [Bool.eq_iff_iff]; simp [msgB, *]; try omega), (by repeat (first | refine Below.setCell ?_ (by first | (simp; done) | (simp; omega) | omega) _ | refine Below.alloc ?_ (by first | (simp; done) | (simp; omega) | omega) _ | exact Below.refl _ _))⟩
      · have h4' : 0 ≤ no ∧ no ≤ 100000999 := of_decide_eq_true h4
        by_cases h5 : sl = 0
        · subst h5
          by_cases h6 : s.toList = []
          · go_enter Tryd.func52, Tryd.ntmps52
            go_wp2_with fail
            refine (l4Node_any _ _).mono ?_
            rintro e w' ⟨rfl, rfl⟩
            rw [h1]
            go_wp2_with fail
            refine (l4Node_any _ _).mono ?_
            rintro e w' ⟨rfl, rfl⟩
            rw [h2]
            go_wp2_with fail
            refine (l1In_any _ _ _ _).mono ?_
            rintro e w' ⟨rfl, rfl⟩
            rw [h4]
            by_cases t0 : tuu = 0
            · by_cases n0 : no = 0
              · by_cases l0 : lo = 0
                · by_cases g0 : hi = 0
                  · subst l0 g0
                    go_wp2_with fail
                    refine (l1In_any _ _ _ _).mono ?_
                    rintro e w' ⟨rfl, rfl⟩
                    go_wp2_with fail
                    go_ret
                    exact ⟨ret_bool (by rw [Bool.eq_iff_iff]; simp [msgB, *]; try omega), (by repeat (first | refine Below.setCell ?_ (by first | (simp; done) | (simp; omega) | omega) _ | refine Below.alloc ?_ (by first | (simp; done) | (simp; omega) | omega) _ | exact Below.refl _ _))⟩
                  · subst l0
                    go_wp2_with fail
                    go_ret
                    exact ⟨ret_bool (by rw [Bool.eq_iff_iff]; simp [msgB, *]; try omega), (by repeat (first | refine Below.setCell ?_ (by first | (simp; done) | (simp; omega) | omega) _ | refine Below.alloc ?_ (by first | (simp; done) | (simp; omega) | omega) _ | exact Below.refl _ _))⟩
                · go_wp2_with fail
                  go_ret
                  exact ⟨ret_bool (by rw [Bool.eq_iff_iff]; simp [msgB, *]; try omega), (by repeat (first | refine Below.setCell ?_ (by first | (simp; done) | (simp; omega) | omega) _ | refine Below.alloc ?_ (by first | (simp; done) | (simp; omega) | omega) _ | exact Below.refl _ _))⟩
              · have n0b : (no == 0) = false := by rw [beq_eq_false_iff_ne]; exact n0
                go_wp2_with fail
                go_ret
                exact ⟨ret_bool (by rw [Bool.eq_iff_iff]; simp [msgB, *]; try omega), (by repeat (first | refine Below.setCell ?_ (by first | (simp; done) | (simp; omega) | omega) _ | refine Below.alloc ?_ (by first | (simp; done) | (simp; omega) | omega) _ | exact Below.refl _ _))⟩
            · have t0b : (tuu == 0) = false := by rw [beq_eq_false_iff_ne]; exact t0
              go_wp2_with fail
              go_ret
              exact ⟨ret_bool (by rw [Bool.eq_iff_iff]; simp [msgB, *]; try omega), (by repeat (first | refine Below.setCell ?_ (by first | (simp; done) | (simp; omega) | omega) _ | refine Below.alloc ?_ (by first | (simp; done) | (simp; omega) | omega) _ | exact Below.refl _ _))⟩
          · go_enter Tryd.func52, Tryd.ntmps52
            go_wp2_with fail
            refine (l4Node_any _ _).mono ?_
            rintro e w' ⟨rfl, rfl⟩
            rw [h1]
            go_wp2_with fail
            refine (l4Node_any _ _).mono ?_
            rintro e w' ⟨rfl, rfl⟩
            rw [h2]
            go_wp2_with fail
            refine (l1In_any _ _ _ _).mono ?_
            rintro e w' ⟨rfl, rfl⟩
            rw [h4]
            by_cases t0 : tuu = 0
            · by_cases n0 : no = 0
              · by_cases l0 : lo = 0
                · by_cases g0 : hi = 0
                  · subst l0 g0
                    go_wp2_with fail
                    refine (l1In_any _ _ _ _).mono ?_
                    rintro e w' ⟨rfl, rfl⟩
                    go_wp2_with fail
                    go_ret
                    exact ⟨ret_bool (by rw [Bool.eq_iff_iff]; simp [msgB, *]; try omega), (by repeat (first | refine Below.setCell ?_ (by first | (simp; done) | (simp; omega) | omega) _ | refine Below.alloc ?_ (by first | (simp; done) | (simp; omega) | omega) _ | exact Below.refl _ _))⟩
                  · subst l0
                    go_wp2_with fail
                    go_ret
                    exact ⟨ret_bool (by rw [Bool.eq_iff_iff]; simp [msgB, *]; try omega), (by repeat (first | refine Below.setCell ?_ (by first | (simp; done) | (simp; omega) | omega) _ | refine Below.alloc ?_ (by first | (simp; done) | (simp; omega) | omega) _ | exact Below.refl _ _))⟩
                · go_wp2_with fail
                  go_ret
                  exact ⟨ret_bool (by rw [Bool.eq_iff_iff]; simp [msgB, *]; try omega), (by repeat (first | refine Below.setCell ?_ (by first | (simp; done) | (simp; omega) | omega) _ | refine Below.alloc ?_ (by first | (simp; done) | (simp; omega) | omega) _ | exact Below.refl _ _))⟩
              · have n0b : (no == 0) = false := by rw [beq_eq_false_iff_ne]; exact n0
                go_wp2_with fail
                go_ret
                exact ⟨ret_bool (by rw [Bool.eq_iff_iff]; simp [msgB, *]; try omega), (by repeat (first | refine Below.setCell ?_ (by first | (simp; done) | (simp; omega) | omega) _ | refine Below.alloc ?_ (by first | (simp; done) | (simp; omega) | omega) _ | exact Below.refl _ _))⟩
            · have t0b : (tuu == 0) = false := by rw [beq_eq_false_iff_ne]; exact t0
              go_wp2_with fail
              go_ret
              exact ⟨ret_bool (by rw [Bool.eq_iff_iff]; simp [msgB, *]; try omega), (by repeat (first | refine Below.setCell ?_ (by first | (simp; done) | (simp; omega) | omega) _ | refine Below.alloc ?_ (by first | (simp; done) | (simp; omega) | omega) _ | exact Below.refl _ _))⟩
        · have h5b : (sl == 0) = false := by rw [beq_eq_false_iff_ne]; exact h5
          go_enter Tryd.func52, Tryd.ntmps52
          go_wp2_with fail
          refine (l4Node_any _ _).mono ?_
          rintro e w' ⟨rfl, rfl⟩
          rw [h1]
          go_wp2_with fail
          refine (l4Node_any _ _).mono ?_
          rintro e w' ⟨rfl, rfl⟩
          rw [h2]
          go_wp2_with fail
          refine (l1In_any _ _ _ _).mono ?_
          rintro e w' ⟨rfl, rfl⟩
          rw [h4]
          by_cases t0 : tuu = 0
          · by_cases n0 : no = 0
            · by_cases l0 : lo = 0
              · by_cases g0 : hi = 0
                · subst l0 g0
                  go_wp2_with fail
                  refine (l1In_any _ _ _ _).mono ?_
                  rintro e w' ⟨rfl, rfl⟩
                  go_wp2_with fail
                  go_ret
                  exact ⟨ret_bool (by rw [Bool.eq_iff_iff]; simp [msgB, *]; try omega), (by repeat (first | refine Below.setCell ?_ (by first | (simp; done) | (simp; omega) | omega) _ | refine Below.alloc ?_ (by first | (simp; done) | (simp; omega) | omega) _ | exact Below.refl _ _))⟩
                · subst l0
                  go_wp2_with fail
                  go_ret
                  exact ⟨ret_bool (by rw [Bool.eq_iff_iff]; simp [msgB, *]; try omega), (by repeat (first | refine Below.setCell ?_ (by first | (simp; done) | (simp; omega) | omega) _ | refine Below.alloc ?_ (by first | (simp; done) | (simp; omega) | omega) _ | exact Below.refl _ _))⟩
              · go_wp2_with fail
                go_ret
                exact ⟨ret_bool (by rw [Bool.eq_iff_iff]; simp [msgB, *]; try omega), (by repeat (first | refine Below.setCell ?_ (by first | (simp; done) | (simp; omega) | omega) _ | refine Below.alloc ?_ (by first | (simp; done) | (simp; omega) | omega) _ | exact Below.refl _ _))⟩
            · have n0b : (no == 0) = false := by rw [beq_eq_false_iff_ne]; exact n0
              go_wp2_with fail
              go_ret
              exact ⟨ret_bool (by rw [Bool.eq_iff_iff]; simp [msgB, *]; try omega), (by repeat (first | refine Below.setCell ?_ (by first | (simp; done) | (simp; omega) | omega) _ | refine Below.alloc ?_ (by first | (simp; done) | (simp; omega) | omega) _ | exact Below.refl _ _))⟩
          · have t0b : (tuu == 0) = false := by rw [beq_eq_false_iff_ne]; exact t0
            go_wp2_with fail
            go_ret
            exact ⟨ret_bool (by rw [Bool.eq_iff_iff]; simp [msgB, *]; try omega), (by repeat (first | refine Below.setCell ?_ (by first | (simp; done) | (simp; omega) | omega) _ | refine Below.alloc ?_ (by first | (simp; done) | (simp; omega) | omega) _ | exact Below.refl _ _))⟩
set_option maxHeartbeats 8000000 in
theorem specMsgOk_no (k fr tuu no lo hi sl : Int) (s : ByteArray) (w : World) (h1 : nodB fr = true) (hz : s.size ≤ 24) (k1 : k ≠ 1) (k2 : k ≠ 2) (k3 : k ≠ 3) :
    Calls Tryd.prog 52 #[.agg #[.int .i64 k, .int .i64 fr, .int .i64 tuu, .int .i64 no, .int .i64 lo, .int .i64 hi, .int .i64 sl, .string s]] w fun e w' => e = .returned (.bool (msgB k fr tuu no lo hi sl s)) ∧ Below w.heap.size w w' := by
  have hzi : ¬ 24 < (s.size : Int) := by omega
  have q1 : (k == 1) = false := by rw [beq_eq_false_iff_ne]; exact k1
  have q2 : (k == 2) = false := by rw [beq_eq_false_iff_ne]; exact k2
  have q3 : (k == 3) = false := by rw [beq_eq_false_iff_ne]; exact k3
  cases h2 : nodB tuu
  · go_enter Tryd.func52, Tryd.ntmps52
    go_wp2_with fail
    refine (l4Node_any _ _).mono ?_
    rintro e w' ⟨rfl, rfl⟩
    rw [h1]
    go_wp2_with fail
    refine (l4Node_any _ _).mono ?_
    rintro e w' ⟨rfl, rfl⟩
    rw [h2]
    go_wp2_with fail
    all_goals go_ret
    all_goals exact ⟨ret_bool (by rw [Bool.eq_iff_iff]; simp [msgB, *]; try omega), (by repeat (first | refine Below.setCell ?_ (by first | (simp; done) | (simp; omega) | omega) _ | refine Below.alloc ?_ (by first | (simp; done) | (simp; omega) | omega) _ | exact Below.refl _ _))⟩
  · cases h3 : (tuu != fr)
    · have h3' : tuu = fr := by simpa using h3
      subst h3'
      go_enter Tryd.func52, Tryd.ntmps52
      go_wp2_with fail
      refine (l4Node_any _ _).mono ?_
      rintro e w' ⟨rfl, rfl⟩
      rw [h1]
      go_wp2_with fail
      refine (l4Node_any _ _).mono ?_
      rintro e w' ⟨rfl, rfl⟩
      rw [h2]
      go_wp2_with fail
      all_goals go_ret
      all_goals exact ⟨ret_bool (by rw [Bool.eq_iff_iff]; simp [msgB, *]; try omega), (by repeat (first | refine Below.setCell ?_ (by first | (simp; done) | (simp; omega) | omega) _ | refine Below.alloc ?_ (by first | (simp; done) | (simp; omega) | omega) _ | exact Below.refl _ _))⟩
    · have h3' : ¬ fr = tuu := by simp at h3; omega
      cases h4 : decide (0 ≤ no ∧ no ≤ 100000999)
      · have h4' : ¬ (0 ≤ no ∧ no ≤ 100000999) := of_decide_eq_false h4
        go_enter Tryd.func52, Tryd.ntmps52
        go_wp2_with fail
        refine (l4Node_any _ _).mono ?_
        rintro e w' ⟨rfl, rfl⟩
        rw [h1]
        go_wp2_with fail
        refine (l4Node_any _ _).mono ?_
        rintro e w' ⟨rfl, rfl⟩
        rw [h2]
        go_wp2_with fail
        refine (l1In_any _ _ _ _).mono ?_
        rintro e w' ⟨rfl, rfl⟩
        rw [h4]
        clear h4'
        go_wp2_with fail
        all_goals go_ret
        all_goals exact ⟨ret_bool (by rw [Bool.eq_iff_iff]; simp [msgB, *]; try omega), (by repeat (first | refine Below.setCell ?_ (by first | (simp; done) | (simp; omega) | omega) _ | refine Below.alloc ?_ (by first | (simp; done) | (simp; omega) | omega) _ | exact Below.refl _ _))⟩
      · have h4' : 0 ≤ no ∧ no ≤ 100000999 := of_decide_eq_true h4
        by_cases h5 : sl = 0
        · subst h5
          by_cases h6 : s.toList = []
          · go_enter Tryd.func52, Tryd.ntmps52
            go_wp2_with fail
            refine (l4Node_any _ _).mono ?_
            rintro e w' ⟨rfl, rfl⟩
            rw [h1]
            go_wp2_with fail
            refine (l4Node_any _ _).mono ?_
            rintro e w' ⟨rfl, rfl⟩
            rw [h2]
            go_wp2_with fail
            refine (l1In_any _ _ _ _).mono ?_
            rintro e w' ⟨rfl, rfl⟩
            rw [h4]
            go_wp2_with fail
            all_goals go_ret
            all_goals exact ⟨ret_bool (by rw [Bool.eq_iff_iff]; simp [msgB, *]; try omega), (by repeat (first | refine Below.setCell ?_ (by first | (simp; done) | (simp; omega) | omega) _ | refine Below.alloc ?_ (by first | (simp; done) | (simp; omega) | omega) _ | exact Below.refl _ _))⟩
          · go_enter Tryd.func52, Tryd.ntmps52
            go_wp2_with fail
            refine (l4Node_any _ _).mono ?_
            rintro e w' ⟨rfl, rfl⟩
            rw [h1]
            go_wp2_with fail
            refine (l4Node_any _ _).mono ?_
            rintro e w' ⟨rfl, rfl⟩
            rw [h2]
            go_wp2_with fail
            refine (l1In_any _ _ _ _).mono ?_
            rintro e w' ⟨rfl, rfl⟩
            rw [h4]
            go_wp2_with fail
            all_goals go_ret
            all_goals exact ⟨ret_bool (by rw [Bool.eq_iff_iff]; simp [msgB, *]; try omega), (by repeat (first | refine Below.setCell ?_ (by first | (simp; done) | (simp; omega) | omega) _ | refine Below.alloc ?_ (by first | (simp; done) | (simp; omega) | omega) _ | exact Below.refl _ _))⟩
        · have h5b : (sl == 0) = false := by rw [beq_eq_false_iff_ne]; exact h5
          go_enter Tryd.func52, Tryd.ntmps52
          go_wp2_with fail
          refine (l4Node_any _ _).mono ?_
          rintro e w' ⟨rfl, rfl⟩
          rw [h1]
          go_wp2_with fail
          refine (l4Node_any _ _).mono ?_
          rintro e w' ⟨rfl, rfl⟩
          rw [h2]
          go_wp2_with fail
          refine (l1In_any _ _ _ _).mono ?_
          rintro e w' ⟨rfl, rfl⟩
          rw [h4]
          go_wp2_with fail
          all_goals go_ret
          all_goals exact ⟨ret_bool (by rw [Bool.eq_iff_iff]; simp [msgB, *]; try omega), (by repeat (first | refine Below.setCell ?_ (by first | (simp; done) | (simp; omega) | omega) _ | refine Below.alloc ?_ (by first | (simp; done) | (simp; omega) | omega) _ | exact Below.refl _ _))⟩
theorem specMsgOk_any (k fr tuu no lo hi sl : Int) (s : ByteArray) (w : World) (hs : s.size ≤ 1048576) :
    Calls Tryd.prog 52 #[.agg #[.int .i64 k, .int .i64 fr, .int .i64 tuu, .int .i64 no, .int .i64 lo, .int .i64 hi, .int .i64 sl, .string s]] w fun e w' => e = .returned (.bool (msgB k fr tuu no lo hi sl s)) ∧ Below w.heap.size w w' := by
  by_cases hg : nodB fr = false ∨ ¬ s.size ≤ 24
  · exact specMsgOk_bad k fr tuu no lo hi sl s w hs hg
  · have h1 : nodB fr = true := by cases h : nodB fr; exact absurd (.inl h) hg; rfl
    have hz : s.size ≤ 24 := Decidable.not_not.1 (fun h => hg (.inr h))
    by_cases k1 : k = 1
    · subst k1; exact specMsgOk_1 fr tuu no lo hi sl s w h1 hz
    · by_cases k2 : k = 2
      · subst k2; exact specMsgOk_2 fr tuu no lo hi sl s w h1 hz
      · by_cases k3 : k = 3
        · subst k3; exact specMsgOk_3 fr tuu no lo hi sl s w h1 hz
        · exact specMsgOk_no k fr tuu no lo hi sl s w h1 hz k1 k2 k3
end Go.Proofs.YtdahabbdhjgpdaaDoor
