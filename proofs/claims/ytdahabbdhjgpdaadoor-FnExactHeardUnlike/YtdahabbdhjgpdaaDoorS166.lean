/- HeardUnlike in the specification. -/
import Derived.Test.YtdahabbdhjgpdaaDoorS165
import Derived.Deep.RegionHeld3
import Derived.Deep.DeepCutAuto
import Derived.WalkKit
import Derived.WalkSpells
import Derived.WalkLawsBesides
import Derived.Deep.RegionHeld
namespace Go.Proofs.YtdahabbdhjgpdaaDoor
open Go.RowKit
set_option linter.unusedVariables false
/- The slots that are in one of two rows alone, in the specification. -/
set_option maxRecDepth 100000 in
set_option maxHeartbeats 8000000 in
theorem specHeardUnlike_any (a : Option Addr) (n k : Nat) (M : Nat → VT) (a' : Option Addr) (n' k' : Nat) (M' : Nat → VT) (w : World) (hm : n ≤ maxLen) (hs : SrcC w a (n * 2) (MFIval M)) (hm' : n' ≤ maxLen) (hs' : SrcC w a' (n' * 2) (MFIval M')) :
    Calls Tryd.prog 34 #[.slice a n k, .slice a' n' k'] w fun e w' => ∃ v, e = .returned v ∧ w'.ownsRow w.heap.size 3 1 v (unL M n M' n').length (irow (unL M n M' n')) ∧ Below w.heap.size w w' := by
  have B := Below.nw w (.cells #[] 3)
  have OW := made_int w
  have hjs : w.heap.size < (w.alloc (.cells #[] 3)).heap.size := by simp
  have HS : Hid (SrcC w a (n * 2) (MFIval M)) := hs
  have HT : Hid (SrcC w a' (n' * 2) (MFIval M')) := hs'
  have C1 := fun w' h => specHeardOk_any a n k M w' hm h
  have C2 := fun w' h => specHeardOk_any a' n' k' M' w' hm' h
  clear hs hs'
  cases h1 : hrB M n
  · rw [show unL M n M' n' = [] by unfold unL; rw [h1]; rfl]
    go_enter Tryd.func34, Tryd.ntmps34
    go_upto_region 2 with fail
    generalize w.alloc (.cells #[] 3) = v at *
    go_wp2_with fail
    refine (C1 _ (HS.out.below B)).mono ?_
    rintro e v1 ⟨rfl, hb⟩
    rw [h1]
    replace B := B.trans (hb.mono B.size)
    replace OW := own_belK' OW hb
    clear hb
    go_wp2_with fail
    go_ret
    exact ⟨_, rfl, OW, B⟩
  cases h2 : hrB M' n'
  · rw [show unL M n M' n' = [] by unfold unL; rw [h1, h2]; rfl]
    go_enter Tryd.func34, Tryd.ntmps34
    go_upto_region 2 with fail
    generalize w.alloc (.cells #[] 3) = v at *
    go_wp2_with fail
    refine (C1 _ (HS.out.below B)).mono ?_
    rintro e v1 ⟨rfl, hb⟩
    rw [h1]
    replace B := B.trans (hb.mono B.size)
    replace OW := own_belK' OW hb
    clear hb
    go_wp2_with fail
    refine (C2 _ (HT.out.below B)).mono ?_
    rintro e v2 ⟨rfl, hb⟩
    rw [h2]
    replace B := B.trans (hb.mono B.size)
    replace OW := own_belK' OW hb
    clear hb
    go_wp2_with fail
    go_ret
    exact ⟨_, rfl, OW, B⟩
  rw [show unL M n M' n' = slJ (unP M n M' n') 16 by unfold unL; rw [h1, h2]; rfl]
  have hn := (hrB_t h1).1
  have hn' := (hrB_t h2).1
  have C3 := fun w' h => l16Slots_any a n k M w' hn h
  have C4 := fun w' h => l16Slots_any a' n' k' M' w' hn' h
  have HX : Hid (∀ j, unP M n M' n' j = false → slJ (unP M n M' n') (j + 1) = slJ (unP M n M' n') j) := fun j h => slJ_no h
  have HY : Hid (∀ j, unP M n M' n' j = true → slJ (unP M n M' n') (j + 1) = slJ (unP M n M' n') j ++ [(j : Int)]) := fun j h => slJ_yes h
  have HLN : Hid (∀ j, (slJ (unP M n M' n') j).length ≤ j) := slJ_len _
  have HPP : Hid (∀ j : Nat, unP M n M' n' j = (hasJ (slS M) (j : Int) n != hasJ (slS M') (j : Int) n')) := fun j => rfl
  have HL0 : Hid (slJ (unP M n M' n') 0 = []) := rfl
  have CH : Hid (∀ (b : Option Addr) (l c : Nat) (x : Int) w', l = (slL M n).length → SrcC w' b ((slL M n).length * 1) (MFInt (gI (slL M n))) → Calls Tryd.prog 68 #[.slice b l c, .int .i64 x] w' fun e w'' => e = .returned (.bool (hasJ (slS M) x n)) ∧ w' = w'') := fun b l c x w' e h => by
    subst e
    have := l16Has_any b (slL M n).length c (gI (slL M n)) x w' (by rw [slL_len]; omega) h
    rw [slL_has] at this
    exact this
  have CG : Hid (∀ (b : Option Addr) (l c : Nat) (x : Int) w', l = (slL M' n').length → SrcC w' b ((slL M' n').length * 1) (MFInt (gI (slL M' n'))) → Calls Tryd.prog 68 #[.slice b l c, .int .i64 x] w' fun e w'' => e = .returned (.bool (hasJ (slS M') x n')) ∧ w' = w'') := fun b l c x w' e h => by
    subst e
    have := l16Has_any b (slL M' n').length c (gI (slL M' n')) x w' (by rw [slL_len]; omega) h
    rw [slL_has] at this
    exact this
  generalize slJ (unP M n M' n') = L at *
  generalize unP M n M' n' = P at *
  generalize slL M n = X at *
  generalize slL M' n' = Y at *
  go_enter Tryd.func34, Tryd.ntmps34
  go_upto_region 2 with fail
  generalize w.alloc (.cells #[] 3) = v at *
  go_wp2_with fail
  refine (C1 _ (HS.out.below B)).mono ?_
  rintro e v1 ⟨rfl, hb⟩
  rw [h1]
  replace B := B.trans (hb.mono B.size)
  replace OW := own_belK' OW hb
  replace hjs := Nat.lt_of_lt_of_le hjs hb.size
  clear hb C1
  go_wp2_with fail
  refine (C2 _ (HT.out.below B)).mono ?_
  rintro e v2 ⟨rfl, hb⟩
  rw [h2]
  replace B := B.trans (hb.mono B.size)
  replace OW := own_belK' OW hb
  replace hjs := Nat.lt_of_lt_of_le hjs hb.size
  clear hb C2 h1 h2
  go_wp2_with fail
  refine (C3 _ (HS.out.below B)).mono ?_
  rintro e v3 ⟨vx, rfl, OX, hb⟩
  obtain ⟨xa, xc, rfl, _, _, QX⟩ := ownF_src OX
  have hxa := own_addr OX
  have hj2 := hjs
  replace B := B.trans (hb.mono B.size)
  replace OW := own_belK' OW hb
  replace hjs := Nat.lt_of_lt_of_le hjs hb.size
  have RX : IR v3 xa X.length (gI X) v3.heap.size := ⟨QX, fun b off e => (hxa b off e).2⟩
  clear hb OX QX C3
  go_wp2_with fail
  refine (C4 _ (HT.out.below B)).mono ?_
  rintro e v4 ⟨vy, rfl, OY, hb⟩
  obtain ⟨ya, yc, rfl, _, _, QY⟩ := ownF_src OY
  have hya := own_addr OY
  have hj3 := hjs
  have hv34 := hb.size
  replace B := B.trans (hb.mono B.size)
  replace OW := own_belK' OW hb
  replace hjs := Nat.lt_of_lt_of_le hjs hb.size
  have HRX : Hid (IR v4 xa X.length (gI X) v4.heap.size) := ⟨(RX.below hb).1, fun b off e => Nat.lt_of_lt_of_le (RX.2 b off e) hv34⟩
  have HRY : Hid (IR v4 ya Y.length (gI Y) v4.heap.size) := ⟨QY, fun b off e => (hya b off e).2⟩
  have HNX : Hid (∀ b off, xa = some ⟨b, off, none⟩ → some b ≠ (Value.slice (some ⟨w.heap.size, 0, none⟩) 0 0).ownBlock) := fun b off e he => by
    have h1 := (hxa b off e).1
    have h2 : w.heap.size = b := by simpa [Value.ownBlock] using he.symm
    omega
  have HNY : Hid (∀ b off, ya = some ⟨b, off, none⟩ → some b ≠ (Value.slice (some ⟨w.heap.size, 0, none⟩) 0 0).ownBlock) := fun b off e he => by
    have h1 := (hya b off e).1
    have h2 : w.heap.size = b := by simpa [Value.ownBlock] using he.symm
    omega
  clear hb OY QY C4 RX hxa hya hj2 hj3 hv34 HS HT hm hm'
  have HB1 : Hid (Below w.heap.size w v4) := B
  have HO1 : Hid (v4.ownsRow w.heap.size 3 1 (.slice (some ⟨w.heap.size, 0, none⟩) 0 0) (L 0).length (irow (L 0))) := by rw [Hid, HL0.out]; exact OW
  have HJ1 : Hid (w.heap.size ≤ v4.heap.size) := Nat.le_of_lt hjs
  clear B OW hjs
  go_wp2_with fail
  go_loopw [5, 8] (fun s5 i wr => ∃ (q : Nat), q ≤ 16 ∧ i = .int .i64 q ∧ wr.ownsRow w.heap.size 3 1 s5 (L q).length (irow (L q)) ∧ IR wr xa X.length (gI X) v4.heap.size ∧ IR wr ya Y.length (gI Y) v4.heap.size ∧ (∀ b off, xa = some ⟨b, off, none⟩ → some b ≠ s5.ownBlock) ∧ (∀ b off, ya = some ⟨b, off, none⟩ → some b ≠ s5.ownBlock) ∧ w.heap.size ≤ wr.heap.size ∧ Below w.heap.size v4 wr ∧ v4.heap.size ≤ wr.heap.size) (fun _ i _ => 16 - (intOf i).toNat)
  case atStart => exact ⟨0, by decide, rfl, HO1.out, HRX.out, HRY.out, HNX.out, HNY.out, HJ1.out, Below.refl _ _, Nat.le_refl _⟩
  case round =>
    clear HO1 HRX HRY HNX HNY
    obtain ⟨q, hq, rfl, OW, rx, ry, nx, ny, hjs, BJ, h4⟩ := hrel
    have HRX : Hid (IR wr xa X.length (gI X) v4.heap.size) := rx
    have HRY : Hid (IR wr ya Y.length (gI Y) v4.heap.size) := ry
    have HNX : Hid (∀ b off, xa = some ⟨b, off, none⟩ → some b ≠ u5.ownBlock) := nx
    have HNY : Hid (∀ b off, ya = some ⟨b, off, none⟩ → some b ≠ u5.ownBlock) := ny
    clear rx ry nx ny
    by_cases hlt : q < 16
    · have hli : (q : Int) < 16 := by omega
      have HQ : Hid (q < 16) := hlt
      have HPq := HPP.out q
      have CHq := CH.out xa X.length xc (q : Int) wr rfl HRX.out.1
      have CGq := CG.out ya Y.length yc (q : Int) wr rfl HRY.out.1
      generalize hasJ (slS M) (q : Int) n = b1 at *
      generalize hasJ (slS M') (q : Int) n' = b2 at *
      have hlen := HLN.out q
      have HX1 := HX.out q
      have HY1 := HY.out q
      clear HPP HY HX HLN hlt hq HB1 CH CG
      cases b1
      · cases b2
        · have HE : Hid (L (q + 1) = L q) := HX1 (HPq.trans rfl)
          have HO9 : Hid (wr.ownsRow w.heap.size 3 1 u5 (L q).length (irow (L q))) := OW
          clear HX1 HY1 OW HPq
          go_wp2_with fail
          refine CHq.mono ?_
          rintro e w' ⟨rfl, rfl⟩
          go_wp2_with fail
          refine CGq.mono ?_
          rintro e w' ⟨rfl, rfl⟩
          go_wp2_with fail
          go_roundw
          case rel => exact ⟨q + 1, HQ.out, by go_num, by rw [HE.out]; exact HO9.out, HRX.out, HRY.out, HNX.out, HNY.out, hjs, BJ, h4⟩
          case measure => have hlt' := HQ.out; simp [intOf]; omega
        · have HE : Hid (L (q + 1) = L q ++ [(q : Int)]) := HY1 (HPq.trans rfl)
          clear HX1 HY1 HPq
          generalize L q = Lr at *
          go_wp2_with fail
          refine CHq.mono ?_
          rintro e w' ⟨rfl, rfl⟩
          go_wp2_with fail
          refine CGq.mono ?_
          rintro e w' ⟨rfl, rfl⟩
          have hlen' : Lr.length ≤ 64 := by omega
          go_upto_region 7 with (at_builtin; refine add_int rfl _ _ rfl w.heap.size Lr _ rfl OW rfl hlen' hjs ?_; intro v' w9 O9 hg9 hn9)
          have HO9 : Hid (w9.ownsRow w.heap.size 3 1 v' (Lr ++ [(q : Int)]).length (irow (Lr ++ [(q : Int)]))) := O9
          have HR9 : Hid (IR w9 xa X.length (gI X) v4.heap.size) := HRX.out.grown hg9 HNX.out
          have HS9 : Hid (IR w9 ya Y.length (gI Y) v4.heap.size) := HRY.out.grown hg9 HNY.out
          have HN9 : Hid (∀ b off, xa = some ⟨b, off, none⟩ → some b ≠ v'.ownBlock) := ne_grown HRX.out.2 h4 HNX.out hn9
          have HM9 : Hid (∀ b off, ya = some ⟨b, off, none⟩ → some b ≠ v'.ownBlock) := ne_grown HRY.out.2 h4 HNY.out hn9
          replace BJ := BJ.trans (grown_belowK OW hg9 hjs)
          replace hjs : w.heap.size ≤ w9.heap.size := Nat.le_trans hjs hg9.size
          replace h4 : v4.heap.size ≤ w9.heap.size := Nat.le_trans h4 hg9.size
          clear O9 OW hg9 hn9
          go_wp2_with fail
          go_roundw
          case rel => exact ⟨q + 1, HQ.out, by go_num, by rw [HE.out]; exact HO9.out, HR9.out, HS9.out, HN9.out, HM9.out, hjs, BJ, h4⟩
          case measure => have hlt' := HQ.out; simp [intOf]; omega
      · cases b2
        · have HE : Hid (L (q + 1) = L q ++ [(q : Int)]) := HY1 (HPq.trans rfl)
          clear HX1 HY1 HPq
          generalize L q = Lr at *
          go_wp2_with fail
          refine CHq.mono ?_
          rintro e w' ⟨rfl, rfl⟩
          go_wp2_with fail
          refine CGq.mono ?_
          rintro e w' ⟨rfl, rfl⟩
          have hlen' : Lr.length ≤ 64 := by omega
          go_upto_region 7 with (at_builtin; refine add_int rfl _ _ rfl w.heap.size Lr _ rfl OW rfl hlen' hjs ?_; intro v' w9 O9 hg9 hn9)
          have HO9 : Hid (w9.ownsRow w.heap.size 3 1 v' (Lr ++ [(q : Int)]).length (irow (Lr ++ [(q : Int)]))) := O9
          have HR9 : Hid (IR w9 xa X.length (gI X) v4.heap.size) := HRX.out.grown hg9 HNX.out
          have HS9 : Hid (IR w9 ya Y.length (gI Y) v4.heap.size) := HRY.out.grown hg9 HNY.out
          have HN9 : Hid (∀ b off, xa = some ⟨b, off, none⟩ → some b ≠ v'.ownBlock) := ne_grown HRX.out.2 h4 HNX.out hn9
          have HM9 : Hid (∀ b off, ya = some ⟨b, off, none⟩ → some b ≠ v'.ownBlock) := ne_grown HRY.out.2 h4 HNY.out hn9
          replace BJ := BJ.trans (grown_belowK OW hg9 hjs)
          replace hjs : w.heap.size ≤ w9.heap.size := Nat.le_trans hjs hg9.size
          replace h4 : v4.heap.size ≤ w9.heap.size := Nat.le_trans h4 hg9.size
          clear O9 OW hg9 hn9
          go_wp2_with fail
          go_roundw
          case rel => exact ⟨q + 1, HQ.out, by go_num, by rw [HE.out]; exact HO9.out, HR9.out, HS9.out, HN9.out, HM9.out, hjs, BJ, h4⟩
          case measure => have hlt' := HQ.out; simp [intOf]; omega
        · have HE : Hid (L (q + 1) = L q) := HX1 (HPq.trans rfl)
          have HO9 : Hid (wr.ownsRow w.heap.size 3 1 u5 (L q).length (irow (L q))) := OW
          clear HX1 HY1 OW HPq
          go_wp2_with fail
          refine CHq.mono ?_
          rintro e w' ⟨rfl, rfl⟩
          go_wp2_with fail
          refine CGq.mono ?_
          rintro e w' ⟨rfl, rfl⟩
          go_wp2_with fail
          go_roundw
          case rel => exact ⟨q + 1, HQ.out, by go_num, by rw [HE.out]; exact HO9.out, HRX.out, HRY.out, HNX.out, HNY.out, hjs, BJ, h4⟩
          case measure => have hlt' := HQ.out; simp [intOf]; omega
    · have hkn : q = 16 := by omega
      subst hkn
      have B := HB1.out.trans (BJ.mono (Nat.le_refl _))
      clear HPP HY HX HLN CH CG
      go_wp2_with fail
      go_ret
      exact ⟨_, rfl, OW, B⟩
end Go.Proofs.YtdahabbdhjgpdaaDoor
