/- HeardOwners in the specification. -/
import Derived.Test.YtdahabbdhjgpdaaDoorS165
import Derived.Deep.RegionHeld3
import Derived.Deep.DeepCutAuto
import Derived.WalkKit
import Derived.WalkSpells
import Derived.WalkLawsBesides
import Derived.Deep.RegionHeld
namespace Go.Proofs.YtdahabbdhjgpdaaDoor
open Go.RowKit
set_option linter.unusedVariables false
/- The owners of heard slots, in the specification. -/
theorem ofS_t {M : Nat → VT} {n : Nat} {PM : Nat → SlT} {o : Int} {i : Nat} (h : ofS M n PM o i = true) : ofS M n PM o (i + 1) = true := by rw [ofS, h]; rfl
theorem ofS_f {M : Nat → VT} {n : Nat} {PM : Nat → SlT} {o : Int} {i : Nat} (h : ofS M n PM o i = false) : ofS M n PM o (i + 1) = ((PM i).1 == o && hasJ (slS M) (i : Int) n) := by rw [ofS, h, Bool.false_or]
set_option maxRecDepth 100000 in
set_option maxHeartbeats 8000000 in
theorem specHeardOwners_any (a : Option Addr) (n k : Nat) (M : Nat → VT) (s g : Int) (p : Option Addr) (m d : Nat) (PM : Nat → SlT) (w : World) (hm : n ≤ maxLen) (hs : SrcC w a (n * 2) (MFIval M)) (hpm : m ≤ maxLen) (hp : SrcC w p (m * 2) (MFSlot PM)) :
    Calls Tryd.prog 35 #[.slice a n k, .agg #[.int .i64 s, .int .i64 g, .slice p m d]] w fun e w' => ∃ v, e = .returned v ∧ w'.ownsRow w.heap.size 3 1 v (onL M n s g PM m).length (irow (onL M n s g PM m)) ∧ Below w.heap.size w w' := by
  have A0 := Below.nw w (.cells #[.int .i64 s, .int .i64 g, .slice p m d] 27)
  have A2 := Below.nw (w.alloc (.cells #[.int .i64 s, .int .i64 g, .slice p m d] 27)) (.cells #[] 3)
  have N := (Tx3.new w (.int .i64 s) (.int .i64 g) (.slice p m d) 27).below A2
  have OW := made_int (w.alloc (.cells #[.int .i64 s, .int .i64 g, .slice p m d] 27))
  have B := A0.trans (A2.mono A0.size)
  have hjs : w.heap.size + 1 ≤ ((w.alloc (.cells #[.int .i64 s, .int .i64 g, .slice p m d] 27)).alloc (.cells #[] 3)).heap.size := by simp
  simp only [World.size_alloc] at OW
  clear A0 A2
  have HS : Hid (SrcC w a (n * 2) (MFIval M)) := hs
  have HP : Hid (SrcC w p (m * 2) (MFSlot PM)) := hp
  have C1 := fun w' h => specHeardOk_any a n k M w' hm h
  have C2 := fun w' h => specPlanOk_any s g p m d PM w' hpm h
  clear hs hp
  cases h1 : hrB M n
  · rw [show onL M n s g PM m = [] by unfold onL; rw [h1]; rfl]
    go_enter Tryd.func35, Tryd.ntmps35; go_upto_region 2 with fail; generalize (w.alloc (.cells #[.int .i64 s, .int .i64 g, .slice p m d] 27)).alloc (.cells #[] 3) = v at *
    go_wp2_with fail; refine (C1 _ (HS.out.below B)).mono ?_; rintro e v1 ⟨rfl, hb⟩; rw [h1]; replace B := B.trans (hb.mono B.size); replace N := N.below hb; replace OW := own_belK' OW hb; replace hjs := Nat.le_trans hjs hb.size; clear hb
    go_wp2_with fail
    go_ret
    exact ⟨_, rfl, own_baseI16 OW (Nat.le_add_right w.heap.size 1), B⟩
  cases h2 : plB s g PM m
  · rw [show onL M n s g PM m = [] by unfold onL; rw [h1, h2]; rfl]
    go_enter Tryd.func35, Tryd.ntmps35; go_upto_region 2 with fail; generalize (w.alloc (.cells #[.int .i64 s, .int .i64 g, .slice p m d] 27)).alloc (.cells #[] 3) = v at *
    go_wp2_with fail; refine (C1 _ (HS.out.below B)).mono ?_; rintro e v1 ⟨rfl, hb⟩; rw [h1]; replace B := B.trans (hb.mono B.size); replace N := N.below hb; replace OW := own_belK' OW hb; replace hjs := Nat.le_trans hjs hb.size; clear hb
    obtain ⟨n0, n1, n2, n3, n4, n5, n6⟩ := id N; go_wp2_with fail; refine (C2 _ (HP.out.below B)).mono ?_; rintro e v2 ⟨rfl, hb⟩; clear n0 n1 n2 n3 n4 n5 n6; rw [h2]; replace B := B.trans (hb.mono B.size); replace N := N.below hb; replace OW := own_belK' OW hb; replace hjs := Nat.le_trans hjs hb.size; clear hb
    go_wp2_with fail
    go_ret
    exact ⟨_, rfl, own_baseI16 OW (Nat.le_add_right w.heap.size 1), B⟩
  rw [show onL M n s g PM m = slJ (owP M n PM m) 8 by unfold onL; rw [h1, h2]; rfl]
  have hn := (hrB_t h1).1
  have hm12 := (plB_t h2).2.2.1.2
  have C3 := fun w' h => l16Slots_any a n k M w' hn h
  have HX : Hid (∀ j, owP M n PM m j = false → slJ (owP M n PM m) (j + 1) = slJ (owP M n PM m) j) := fun j h => slJ_no h
  have HY : Hid (∀ j, owP M n PM m j = true → slJ (owP M n PM m) (j + 1) = slJ (owP M n PM m) j ++ [(j : Int)]) := fun j h => slJ_yes h
  have HLN : Hid (∀ j, (slJ (owP M n PM m) j).length ≤ j) := slJ_len _
  have HPP : Hid (∀ j : Nat, owP M n PM m j = ofS M n PM (j : Int) m) := fun j => rfl
  have HL0 : Hid (slJ (owP M n PM m) 0 = []) := rfl
  have CH : Hid (∀ (b : Option Addr) (l c : Nat) (x : Int) w', l = (slL M n).length → SrcC w' b ((slL M n).length * 1) (MFInt (gI (slL M n))) → Calls Tryd.prog 68 #[.slice b l c, .int .i64 x] w' fun e w'' => e = .returned (.bool (hasJ (slS M) x n)) ∧ w' = w'') := fun b l c x w' e h => by
    subst e
    have := l16Has_any b (slL M n).length c (gI (slL M n)) x w' (by rw [slL_len]; omega) h
    rw [slL_has] at this
    exact this
  generalize slJ (owP M n PM m) = L at *
  generalize owP M n PM m = P at *
  generalize slL M n = X at *
  go_enter Tryd.func35, Tryd.ntmps35; go_upto_region 2 with fail; generalize (w.alloc (.cells #[.int .i64 s, .int .i64 g, .slice p m d] 27)).alloc (.cells #[] 3) = v at *
  go_wp2_with fail; refine (C1 _ (HS.out.below B)).mono ?_; rintro e v1 ⟨rfl, hb⟩; rw [h1]; replace B := B.trans (hb.mono B.size); replace N := N.below hb; replace OW := own_belK' OW hb; replace hjs := Nat.le_trans hjs hb.size; clear hb
  obtain ⟨n0, n1, n2, n3, n4, n5, n6⟩ := id N; go_wp2_with fail; refine (C2 _ (HP.out.below B)).mono ?_; rintro e v2 ⟨rfl, hb⟩; clear n0 n1 n2 n3 n4 n5 n6; rw [h2]; replace B := B.trans (hb.mono B.size); replace N := N.below hb; replace OW := own_belK' OW hb; replace hjs := Nat.le_trans hjs hb.size; clear hb
  clear C1 C2 h1 h2
  go_wp2_with fail
  refine (C3 _ (HS.out.below B)).mono ?_
  rintro e v4 ⟨vx, rfl, OX, hb⟩
  obtain ⟨xa, xc, rfl, _, _, QX⟩ := ownF_src OX
  have hxa := own_addr OX
  have HNX : Hid (∀ b off, xa = some ⟨b, off, none⟩ → some b ≠ (Value.slice (some ⟨w.heap.size + 1, 0, none⟩) 0 0).ownBlock) := fun b off e he => by
    have h1 := (hxa b off e).1
    have h2 := (World.ownsRow.lt OW b he.symm).2
    omega
  replace B := B.trans (hb.mono B.size)
  replace N := N.below hb
  replace OW := own_belK' OW hb
  replace hjs := Nat.le_trans hjs hb.size
  have HRX : Hid (IR v4 xa X.length (gI X) v4.heap.size) := ⟨QX, fun b off e => (hxa b off e).2⟩
  clear hb OX QX C3 hxa HS hm
  have HB1 : Hid (Below w.heap.size w v4) := B
  have HN1 : Hid (Tx3 v4 w.heap.size (.int .i64 s) (.int .i64 g) (.slice p m d)) := N
  have HO1 : Hid (v4.ownsRow (w.heap.size + 1) 3 1 (.slice (some ⟨w.heap.size + 1, 0, none⟩) 0 0) (L 0).length (irow (L 0))) := by rw [Hid, HL0.out]; exact OW
  have HJ1 : Hid (w.heap.size + 1 ≤ v4.heap.size) := hjs
  clear B OW hjs N
  go_wp2_with fail
  go_loopw [5, 7] (fun s5 i wr => ∃ (q : Nat), q ≤ 8 ∧ i = .int .i64 q ∧ wr.ownsRow (w.heap.size + 1) 3 1 s5 (L q).length (irow (L q)) ∧ IR wr xa X.length (gI X) v4.heap.size ∧ (∀ b off, xa = some ⟨b, off, none⟩ → some b ≠ s5.ownBlock) ∧ w.heap.size + 1 ≤ wr.heap.size ∧ Below (w.heap.size + 1) v4 wr ∧ v4.heap.size ≤ wr.heap.size) (fun _ i _ => 8 - (intOf i).toNat)
  case atStart => exact ⟨0, by decide, rfl, HO1.out, HRX.out, HNX.out, HJ1.out, Below.refl _ _, Nat.le_refl _⟩
  case round =>
    clear HO1 HRX HNX
    obtain ⟨q, hq, rfl, OW, rx, nx, hjs, BJ, h4⟩ := hrel
    have HRX : Hid (IR wr xa X.length (gI X) v4.heap.size) := rx
    have HNX : Hid (∀ b off, xa = some ⟨b, off, none⟩ → some b ≠ u5.ownBlock) := nx
    clear rx nx
    by_cases hlt : q < 8
    · have hli : (q : Int) < 8 := by omega
      have HQ : Hid (q < 8) := hlt
      have HP1 := HPP.out q
      have hlen := HLN.out q
      have HX1 := HX.out q
      have HY1 := HY.out q
      have HPr : Hid (SrcC wr p (m * 2) (MFSlot PM)) := HP.out.below (HB1.out.trans (BJ.mono (Nat.le_add_right _ _)))
      have HN : Hid (Tx3 wr w.heap.size (.int .i64 s) (.int .i64 g) (.slice p m d)) := HN1.out.belowB BJ (by omega)
      have HOW : Hid (wr.ownsRow (w.heap.size + 1) 3 1 u5 (L q).length (irow (L q))) := OW
      clear HPP HY HX HLN hlt hq OW HB1 HP
      go_wp2_with fail
      go_loopw [8, 9] (fun f i wi => ∃ (j : Nat), j ≤ m ∧ i = .int .i64 j ∧ f = .bool (ofS M n PM (q : Int) j) ∧ wi = wr) (fun _ i _ => m - (intOf i).toNat)
      case atStart => exact ⟨0, Nat.zero_le _, rfl, rfl, rfl⟩
      case round =>
        obtain ⟨j, hj, rfl, rfl, rfl⟩ := hrel
        have N := HN.out
        by_cases hjm : j < m
        · have hji : (j : Int) < (m : Int) := by omega
          have HJ : Hid (j < m) := hjm
          obtain ⟨o, l, hM⟩ := tupSlot PM j
          obtain ⟨b, off, rfl, hf⟩ : ∃ b off, p = some ⟨b, off, none⟩ ∧ Cs wr b off (m * 2) (MFSlot PM) := by
            rcases HPr.out with r | r
            · exact absurd r (by omega)
            · exact r
          obtain ⟨c0, -⟩ := hf.elSlot hjm hM
          have CHq := CH.out xa X.length xc (j : Int) wr rfl HRX.out.1
          have HS1 : Hid (ofS M n PM (q : Int) j = true → ofS M n PM (q : Int) (j + 1) = true) := ofS_t
          have HF1 : Hid (ofS M n PM (q : Int) j = false → ofS M n PM (q : Int) (j + 1) = (o == (q : Int) && hasJ (slS M) (j : Int) n)) := fun h => by rw [ofS_f h, hM]
          generalize hasJ (slS M) (j : Int) n = hh at *
          clear hf hM hjm hj CH
          cases h5 : ofS M n PM (q : Int) j
          · have HG := HF1.out h5
            clear HS1 HF1
            cases h6 : (o == (q : Int))
            · rw [h6, Bool.false_and] at HG
              have HE : Hid (ofS M n PM (q : Int) (j + 1) = false) := HG
              clear HG CHq h5
              obtain ⟨n0, n1, n2, n3, n4, n5, n6⟩ := id N
              go_wp2_with fail
              go_roundw
              case rel => exact ⟨j + 1, HJ.out, by go_num, by rw [HE.out], by first | rfl | trivial⟩
              case measure => have hlt' := HJ.out; simp [intOf]; omega
            · rw [h6, Bool.true_and] at HG
              have HE : Hid (ofS M n PM (q : Int) (j + 1) = hh) := HG
              clear HG h5
              obtain ⟨n0, n1, n2, n3, n4, n5, n6⟩ := id N
              go_wp2_with fail
              refine CHq.mono ?_
              rintro e w' ⟨rfl, rfl⟩
              cases hh
              · go_wp2_with fail
                go_roundw
                case rel => exact ⟨j + 1, HJ.out, by go_num, by rw [HE.out], by first | rfl | trivial⟩
                case measure => have hlt' := HJ.out; simp [intOf]; omega
              · go_wp2_with fail
                go_roundw
                case rel => exact ⟨j + 1, HJ.out, by go_num, by rw [HE.out], by first | rfl | trivial⟩
                case measure => have hlt' := HJ.out; simp [intOf]; omega
          · have HE : Hid (ofS M n PM (q : Int) (j + 1) = true) := HS1.out h5
            clear HS1 HF1 CHq h5
            obtain ⟨n0, n1, n2, n3, n4, n5, n6⟩ := id N
            go_wp2_with fail
            go_roundw
            case rel => exact ⟨j + 1, HJ.out, by go_num, by rw [HE.out], by first | rfl | trivial⟩
            case measure => have hlt' := HJ.out; simp [intOf]; omega
        · have hjj : j = m := by omega
          subst hjj
          have hji : ¬ (j : Int) < (j : Int) := by omega
          have OW := HOW.out
          rw [← HP1]
          clear HPr CH HOW hjm
          obtain ⟨n0, n1, n2, n3, n4, n5, n6⟩ := id N
          cases HP1 : P q
          · have HP1 := HP1
            have HE : Hid (L (q + 1) = L q) := HX1 HP1
            have HO9 : Hid (wr.ownsRow (w.heap.size + 1) 3 1 u5 (L q).length (irow (L q))) := OW
            clear HX1 HY1 OW HP1
            go_wp2_with fail
            go_roundw
            case rel => exact ⟨q + 1, HQ.out, by go_num, by rw [HE.out]; exact HO9.out, HRX.out, HNX.out, hjs, BJ, h4⟩
            case measure => have hlt' := HQ.out; simp [intOf]; omega
          · have HP1 := HP1
            have HE : Hid (L (q + 1) = L q ++ [(q : Int)]) := HY1 HP1
            clear HX1 HY1 HP1
            generalize L q = Lr at *
            have hlen' : Lr.length ≤ 64 := by omega
            go_upto_region 7 with (at_builtin; refine add_int rfl _ _ rfl (w.heap.size + 1) Lr _ rfl OW rfl hlen' hjs ?_; intro v' w9 O9 hg9 hn9)
            have HO9 : Hid (w9.ownsRow (w.heap.size + 1) 3 1 v' (Lr ++ [(q : Int)]).length (irow (Lr ++ [(q : Int)]))) := O9
            have HR9 : Hid (IR w9 xa X.length (gI X) v4.heap.size) := HRX.out.grown hg9 HNX.out
            have HN9 : Hid (∀ b off, xa = some ⟨b, off, none⟩ → some b ≠ v'.ownBlock) := ne_grown HRX.out.2 h4 HNX.out hn9
            replace BJ := BJ.trans (grown_belowK OW hg9 hjs)
            replace hjs : w.heap.size + 1 ≤ w9.heap.size := Nat.le_trans hjs hg9.size
            replace h4 : v4.heap.size ≤ w9.heap.size := Nat.le_trans h4 hg9.size
            clear O9 OW hg9 hn9
            go_wp2_with fail
            go_roundw
            case rel => exact ⟨q + 1, HQ.out, by go_num, by rw [HE.out]; exact HO9.out, HR9.out, HN9.out, hjs, BJ, h4⟩
            case measure => have hlt' := HQ.out; simp [intOf]; omega
    · have hkn : q = 8 := by omega
      subst hkn
      have B := HB1.out.trans (BJ.mono (Nat.le_add_right _ _))
      clear HPP HY HX HLN CH HP
      go_wp2_with fail
      go_ret
      exact ⟨_, rfl, own_baseI16 OW (Nat.le_add_right w.heap.size 1), B⟩
end Go.Proofs.YtdahabbdhjgpdaaDoor
