/- The contract of PeersMark in the program. The contract of PeersMark in the specification. Lists of sources that are marked. What the draws of a local interval, its drift and a count leave. A list, a drift, counts and an interval are drawn. Contracts of PeersSure in the program. -/
import Derived.Test.YtkeijldfblgeaaaGreatMm5
import Derived.Deep.RegionHeld3
import Derived.Deep.DeepCutAuto
import Derived.WalkKit
import Derived.WalkSpells
import Derived.WalkLawsBesides
import Derived.Deep.RegionHeld
import Derived.Test.YtkeijldfblgeaaaGreatMm4
import Derived.Test.YtkeijldfblgeaaaGreatMm3
namespace Go.Proofs.YtkeijldfblgeaaaGreat
open Go.RowKit
set_option linter.unusedVariables false
set_option maxRecDepth 100000 in
set_option maxHeartbeats 2000000 in
theorem mark_any (b n : Nat) (F : Int → Option PT) (x : Int) (s : Bool) (p : PT) (w : World) (MP : MapP w b n F) (hn : n < 1000) (wx : (Lit.int .i64 x).wf = true) (hx : F x = some p) :
    Calls Tryz.prog 22 #[.map (some b), .int .i64 x, .bool s] w fun e w' => e = .returned (.tuple #[]) ∧ MapP w' b (n + 1) (fun y => if y = x then some (p.1, p.2.1, p.2.2.1, p.2.2.2.1, s) else F y) ∧ w.grownBy w' (some b) := by
  have hlk := MP.look wx
  rw [hx] at hlk
  obtain ⟨y0, y1, y2, y3, y4⟩ := p
  simp only [Option.getD, pv] at hlk
  have A1 := Below.nw w (.cells #[.int .i64 y0, .int .i64 y1, .int .i64 y2, .int .i64 y3, .bool y4] 35)
  have KB := Bx5.new w (.int .i64 y0) (.int .i64 y1) (.int .i64 y2) (.int .i64 y3) (.bool y4) 35
  have hbl := MP.lt
  replace MP := MP.below A1
  go_enter Tryz.func22, Tryz.ntmps22
  go_upto_region 1 with fail
  clear hlk
  have hsz : (w.alloc (.cells #[.int .i64 y0, .int .i64 y1, .int .i64 y2, .int .i64 y3, .bool y4] 35)).heap.size = w.heap.size + 1 := by simp
  generalize w.alloc (.cells #[.int .i64 y0, .int .i64 y1, .int .i64 y2, .int .i64 y3, .bool y4] 35) = w1 at *
  obtain ⟨k9, k0, k1, k2, k3, k4, f0, f1, f2, f3, f4⟩ := id KB
  have KB2 := KB.set4 (.bool s)
  have MP2 := MP.setCell (a := ⟨w.heap.size, 4, none⟩) (by simp; omega) (.bool s)
  have G2 : Below w.heap.size w (w1.setCell ⟨w.heap.size, 4, none⟩ (.bool s)) := A1.setCell (Nat.le_refl _) _
  go_upto_region 2 with fail
  clear k9 k0 k1 k2 k3 k4 f0 f1 f2 f3 f4 KB MP A1
  generalize w1.setCell ⟨w.heap.size, 4, none⟩ (.bool s) = w2 at *
  obtain ⟨k9, k0, k1, k2, k3, k4, f0, f1, f2, f3, f4⟩ := id KB2
  obtain ⟨w4, hrun, MP4, hg4⟩ := MP2.put wx (by unfold maxLen; omega) (y0, y1, y2, y3, s)
  simp only [pv] at hrun
  go_wp2_with fail
  go_end0
  exact ⟨rfl, MP4, ⟨hg4.os.trans G2.os, hg4.tape.trans G2.tape, hg4.output.trans G2.output, Nat.le_trans G2.size hg4.size, fun k hk hne => (hg4.block k (Nat.lt_of_lt_of_le hk G2.size) hne).trans (G2.block k hk)⟩⟩
/- The state of the program's loop. -/
def ISt (w : World) (lo hi : Int) (bm j2 nn : Nat) (F : Int → Option PT) (C : List CT) (v0 v1 : Value) (wr : World) : Prop := Bx2 wr (w.heap.size + 1) (.int .i64 lo) (.int .i64 hi) ∧ Two wr j2 C v0 v1 ∧ MapP wr bm nn F ∧ w.heap.size + 1 < bm ∧ bm < j2 ∧ Below w.heap.size w wr
theorem ISt.below {w : World} {lo hi : Int} {bm j2 nn : Nat} {F : Int → Option PT} {C : List CT} {v0 v1 : Value} {wr wr' : World} (h : ISt w lo hi bm j2 nn F C v0 v1 wr) (hb : Below wr.heap.size wr wr') : ISt w lo hi bm j2 nn F C v0 v1 wr' := by
  obtain ⟨h1, h2, h3, h4, h5, h6⟩ := h
  exact ⟨h1.below hb, h2.below hb, h3.below hb, h4, h5, h6.trans (hb.mono h6.size)⟩
theorem ISt.drew {w : World} {lo hi : Int} {bm j2 nn : Nat} {F : Int → Option PT} {C : List CT} {v0 v1 : Value} {wr : World} (h : ISt w lo hi bm j2 nn F C v0 v1 wr) : ISt w lo hi bm j2 nn F C v0 v1 wr.drew := by
  obtain ⟨h1, h2, h3, h4, h5, h6⟩ := h
  exact ⟨h1, h2, h3, h4, h5, Below.drew h6⟩
theorem ISt.lts {w : World} {lo hi : Int} {bm j2 nn : Nat} {F : Int → Option PT} {C : List CT} {v0 v1 : Value} {wr : World} (h : ISt w lo hi bm j2 nn F C v0 v1 wr) : w.heap.size + 1 < wr.heap.size ∧ bm < wr.heap.size ∧ (∀ g, v0.ownBlock = some g → g < wr.heap.size) ∧ (∀ g, v1.ownBlock = some g → g < wr.heap.size) := ⟨h.1.1, h.2.2.1.lt, fun g hg => (h.2.1.lts.1 g hg).2, fun g hg => (h.2.1.lts.2 g hg).2⟩
theorem ISt.but {w : World} {lo hi : Int} {bm j2 nn j : Nat} {F : Int → Option PT} {C : List CT} {v0 v1 : Value} {wr wr' : World} (h : ISt w lo hi bm j2 nn F C v0 v1 wr) (hb : But j wr wr') (hj : w.heap.size + 1 < j ∧ bm < j ∧ (∀ g, v0.ownBlock = some g → g < j) ∧ (∀ g, v1.ownBlock = some g → g < j)) : ISt w lo hi bm j2 nn F C v0 v1 wr' := by
  obtain ⟨h1, h2, h3, h4, h5, h6⟩ := h
  exact ⟨h1.but hb (by omega), h2.but hb (fun g hg => by have := hj.2.2.1 g hg; omega) (fun g hg => by have := hj.2.2.2 g hg; omega), h3.but hb (by omega), h4, h5, h6.trans (hb.below (by omega) h6.size)⟩
theorem ISt.mark {w : World} {lo hi : Int} {bm j2 nn nn' : Nat} {F F' : Int → Option PT} {C : List CT} {v0 v1 : Value} {wr wr' : World} (h : ISt w lo hi bm j2 nn F C v0 v1 wr) (hg : wr.grownBy wr' (some bm)) (MP : MapP wr' bm nn' F') : ISt w lo hi bm j2 nn' F' C v0 v1 wr' := by
  have hl := h.2.1.lts
  obtain ⟨h1, h2, h3, h4, h5, h6⟩ := h
  have hb := But.ofGrownK hg
  exact ⟨h1.but hb (by omega), h2.but hb (fun g hg => by have := (hl.1 g hg).1; omega) (fun g hg => by have := (hl.2 g hg).1; omega), MP, h4, h5, h6.trans (hb.below (by omega) h6.size)⟩
theorem wf07 {x : Int} (h : nodB x = true) : (Lit.int .i64 x).wf = true := by
  have := nodB_t h
  simp only [Lit.wf, Bool.and_eq_true, decide_eq_true_eq]
  exact ⟨by show (-9223372036854775808 : Int) ≤ x; omega, by show x ≤ (9223372036854775807 : Int); omega⟩
set_option maxRecDepth 100000 in
set_option maxHeartbeats 16000000 in
theorem implPeersMark_w (a : Option Addr) (m c : Nat) (M : Nat → PT) (n d x y lo hi : Int) (w : World) (hm : m ≤ maxLen) (hs : SrcC w a (m * 5) (MFPeer M)) :
    Calls Tryz.prog 6 #[.slice a m c, .agg #[.int .i64 n, .int .i64 d], .int .i64 x, .int .i64 y, .agg #[.int .i64 lo, .int .i64 hi]] w fun e w' => ∃ v, e = .returned v ∧ w'.ownsRow w.heap.size 35 5 v (mrL M m n d x y lo hi).length (prow (mrL M m n d x y lo hi)) ∧ Below w.heap.size w w' := by
  have B0 := (Below.nw w (.cells #[.int .i64 n, .int .i64 d] 26)).alloc (by simp) (.cells #[.int .i64 lo, .int .i64 hi] 28)
  have Q := (Bx2.new w (.int .i64 n) (.int .i64 d) 26).alloc (.cells #[.int .i64 lo, .int .i64 hi] 28)
  have P := Bx2.new (w.alloc (.cells #[.int .i64 n, .int .i64 d] 26)) (.int .i64 lo) (.int .i64 hi) 28
  simp only [World.size_alloc] at P
  have HS : Hid (SrcC w a (m * 5) (MFPeer M)) := hs
  have hw0 : ((w.alloc (.cells #[.int .i64 n, .int .i64 d] 26)).alloc (.cells #[.int .i64 lo, .int .i64 hi] 28)).heap.size = w.heap.size + 2 := by simp
  have CC := fun (v : World) (hb : Below w.heap.size w v) => implPeersCarried_w a m c M n d x y v hm (HS.out.below hb)
  clear hs
  cases h1 : oks M m
  · rw [mrL_1 h1]
    have C1 := rosterOf_bad a m c M _ hm (HS.out.below B0) h1
    go_enter Tryz.func6, Tryz.ntmps6
    go_upto_region 1 with fail
    generalize (w.alloc (.cells #[.int .i64 n, .int .i64 d] 26)).alloc (.cells #[.int .i64 lo, .int .i64 hi] 28) = w0 at *
    go_wp2_with fail
    refine C1.mono ?_
    rintro e w1 ⟨rfl, hb⟩
    replace B0 := B0.trans (hb.mono B0.size)
    clear C1 CC
    go_wp2_with fail
    go_ret
    exact ⟨_, rfl, nil_peer _ _, B0⟩
  have C1 := rosterOf_ok a m c M _ hm (HS.out.below B0) h1
  cases h2 : okI lo hi
  · rw [mrL_2 h2]
    go_enter Tryz.func6, Tryz.ntmps6
    go_upto_region 1 with fail
    generalize (w.alloc (.cells #[.int .i64 n, .int .i64 d] 26)).alloc (.cells #[.int .i64 lo, .int .i64 hi] 28) = w0 at *
    go_wp2_with fail
    refine C1.mono ?_
    rintro e w1 ⟨bm, rfl, hbm, MP, hb⟩
    replace B0 := B0.trans (hb.mono B0.size)
    replace P := P.below hb
    clear C1 CC MP
    obtain ⟨p0, p1, p2, p3, p4⟩ := id P
    go_wp2_with fail
    refine (ok_any _ _ _).mono ?_
    rintro e w2 ⟨rfl, hb2⟩
    rw [h2]
    replace B0 := B0.trans (hb2.mono B0.size)
    clear hb2 p0 p1 p2 p3 p4
    go_wp2_with fail
    go_ret
    exact ⟨_, rfl, nil_peer _ _, B0⟩
  rw [mrL_t h1 h2]
  have HF : Hid (FLP (lkP M m) (lst M m)) := FLP.ofLst h1
  have HCA : Hid (∀ k, k < (caL M m n d x y).length → okI (gC (caL M m n d x y) k).2.1 (gC (caL M m n d x y) k).2.2 = true ∧ ∃ P, P < m ∧ (M P).1 = (gC (caL M m n d x y) k).1) := fun k hk => caL_at hk
  have hCl := caL_len M m n d x y
  have HOK : Hid (oks M m = true) := h1
  have HI2 : Hid (okI lo hi = true) := h2
  have hm8 := oks_le h1
  generalize caL M m n d x y = C at *
  go_enter Tryz.func6, Tryz.ntmps6
  go_upto_region 1 with fail
  generalize (w.alloc (.cells #[.int .i64 n, .int .i64 d] 26)).alloc (.cells #[.int .i64 lo, .int .i64 hi] 28) = w0 at *
  go_wp2_with fail
  refine C1.mono ?_
  rintro e w1 ⟨bm, rfl, hbm, MP, hb⟩
  replace B0 := B0.trans (hb.mono B0.size)
  replace P := P.below hb
  replace Q := Q.below hb
  clear C1 hb
  obtain ⟨p0, p1, p2, p3, p4⟩ := id P
  go_wp2_with fail
  refine (ok_any _ _ _).mono ?_
  rintro e w2 ⟨rfl, hb2⟩
  rw [h2]
  replace B0 := B0.trans (hb2.mono B0.size)
  clear p0 p1 p2 p3 p4 h1 h2
  replace P := P.below hb2
  replace Q := Q.below hb2
  replace MP := MP.below hb2
  clear hb2
  obtain ⟨q0, q1, q2, q3, q4⟩ := id Q
  go_wp2_with fail
  refine (CC _ B0).mono ?_
  rintro e w3 ⟨v0, v1, rfl, O0, O1, _, hb3⟩
  have ST : ISt w lo hi bm w2.heap.size m (lkP M m) C v0 v1 w3 := ⟨P.below hb3, ⟨by rw [List.length_map] at O0 ⊢; exact O0, by rw [List.length_map] at O1 ⊢; exact O1⟩, MP.below hb3, by omega, MP.lt, B0.trans (hb3.mono B0.size)⟩
  have HF0 : Hid (∀ y, lkP M m y = (lkP M m y).map (mkN C lo hi 0)) := fun y => by cases lkP M m y <;> rfl
  have ST0 : ISt w lo hi bm w2.heap.size m (fun y => (lkP M m y).map (mkN C lo hi 0)) C v0 v1 w3 := ⟨ST.1, ST.2.1, ST.2.2.1.congr HF0.out, ST.2.2.2⟩
  clear q0 q1 q2 q3 q4 Q P MP O0 O1 hb3 CC B0 hw0 ST HF0 hbm
  obtain ⟨a0, c0, rfl, _, _, _⟩ := ownF_src ST0.2.1.1
  obtain ⟨a1, c1, rfl, _, _, _⟩ := ownF_src ST0.2.1.2
  generalize hj2 : w2.heap.size = j2 at *
  clear hj2
  simp only [List.length_map] at ST0 ⊢
  go_wp2_with fail
  go_loopw [41] (fun i wr => ∃ k : Nat, k ≤ C.length ∧ i = .int .i64 k ∧ ISt w lo hi bm j2 (m + k) (fun y => (lkP M m y).map (mkN C lo hi k)) C (.slice a0 C.length c0) (.slice a1 C.length c1) wr) (fun i _ => C.length - (intOf i).toNat)
  case atStart => exact ⟨0, Nat.zero_le _, rfl, ST0⟩
  case round =>
    clear ST0
    obtain ⟨k, hk, rfl, ST⟩ := hrel
    by_cases hlt : k < C.length
    · obtain ⟨gb, gc, gb', gc', e0, e1, l0, l1, d0, d1, d2⟩ := ST.2.1.at hlt
      simp at e0 e1
      obtain ⟨rfl, rfl⟩ := e0
      obtain ⟨rfl, rfl⟩ := e1
      obtain ⟨hokc, P, hPm, hPid⟩ := HCA.out k hlt
      have hid := (oks_p HOK.out hPm).1
      rw [hPid] at hid
      have hFx : lkP M m (gC C k).1 = some (M P) := by rw [← hPid]; exact lkP_at (fun i j h1 h2 => oks_asc HOK.out h1 h2) hPm
      have HST : Hid (∀ z, (lkP M m z).map (mkN C lo hi (k + 1)) = if z = (gC C k).1 then some ((gC C k).1, (mkN C lo hi k (M P)).2.1, (mkN C lo hi k (M P)).2.2.1, (mkN C lo hi k (M P)).2.2.2.1, apB (gC C k) lo hi) else (lkP M m z).map (mkN C lo hi k)) := fun z => mkF_step HF.out hlt hFx z
      have HX : Hid ((fun z => (lkP M m z).map (mkN C lo hi k)) (gC C k).1 = some (mkN C lo hi k (M P))) := by rw [Hid]; show (lkP M m (gC C k).1).map _ = _; rw [hFx]; rfl
      have HXI : Hid ((mkN C lo hi k (M P)).1 = (gC C k).1) := by rw [Hid, mkN_id]; exact hPid
      have HME : Hid ((!(meetB (gC C k).2.1 (gC C k).2.2 lo hi)) = apB (gC C k) lo hi) := meet_apB hokc HI2.out
      have hwf := wf07 hid
      have hli : (k : Int) < (C.length : Int) := by omega
      clear hokc hPm hPid hid hFx
      have HAT : Hid (∀ wq, ISt w lo hi bm j2 (m + k) (fun y => (lkP M m y).map (mkN C lo hi k)) C (.slice (some ⟨gb, 0, none⟩) C.length c0) (.slice (some ⟨gb', 0, none⟩) C.length c1) wq → gb < wq.heap.size ∧ wq.cell? ⟨gb, k * 2, none⟩ = some (.int .i64 (gC C k).2.1) ∧ wq.cell? ⟨gb, k * 2 + 1, none⟩ = some (.int .i64 (gC C k).2.2)) := fun wq hq => by
        obtain ⟨ga, gca, ga', gca', e0, e1, l0, l1, d0, d1, d2⟩ := hq.2.1.at hlt
        simp at e0 e1
        obtain ⟨rfl, rfl⟩ := e0
        exact ⟨l0, d0, d1⟩
      generalize hFk : (fun y => (lkP M m y).map (mkN C lo hi k)) = Fk at *
      have HFk : Hid (∀ z, (lkP M m z).map (mkN C lo hi k) = Fk z) := fun z => by rw [← hFk]
      clear hFk
      generalize mkN C lo hi k (M P) = pk at *
      generalize gC C k = ck at *
      obtain ⟨ci, cl, ch⟩ := ck
      dsimp only at *
      have CM := fun v => implMeet_any cl ch lo hi v
      generalize sel (meetB cl ch lo hi) (imx cl lo) = U at *
      generalize sel (meetB cl ch lo hi) (imn ch hi) = D at *
      generalize meetB cl ch lo hi = mB at *
      go_upto_region 8 with fail
      clear d0 d1 d2 l0 l1
      obtain ⟨l0, d0, d1⟩ := HAT.out _ ST
      obtain ⟨p0, p1, p2, p3, p4⟩ := ST.1
      go_cut [17, 18] (fun s8 s9 wx => ∃ j : Nat, s8 = .pointer (some ⟨j, 0, none⟩) ∧ s9 = .bool mB ∧ ISt w lo hi bm j2 (m + k) Fk C (.slice (some ⟨gb, 0, none⟩) C.length c0) (.slice (some ⟨gb', 0, none⟩) C.length c1) wx)
      case first =>
        refine wp_region_held_drew (S := (fun w' => w'.cell? ⟨gb, k * 2, none⟩ = some (.int .i64 cl) ∧ w'.cell? ⟨gb, k * 2 + 1, none⟩ = some (.int .i64 ch) ∧ w'.cell? ⟨w.heap.size + 1, 0, none⟩ = some (.int .i64 lo) ∧ w'.cell? ⟨w.heap.size + 1, 1, none⟩ = some (.int .i64 hi))) (by kernel_rfl) ?_ (fun hHeld => ?_)
        · first | exact ⟨d0, d1, p1, p2⟩ | (simp (maxDischargeDepth := 6) [go_sem, *]; done)
        clear l0 d0 d1 p0 p1 p2 p3 p4
        replace ST := ST.drew
        generalize wr.drew = v at *
        obtain ⟨l0, d0, d1⟩ := HAT.out _ ST; obtain ⟨p0, p1, p2, p3, p4⟩ := ST.1; (try (obtain ⟨n0, n1, n2, n3, n4⟩ := id N))
        refine wpAnyH_take (i := 0) (v := ?_) (by rw [List.getElem?_toArray]; rfl) (by kernel_rfl) (by kernel_rfl) (by kernel_rfl) (by intro _ _ _ h; exact h) (Or.inl ⟨by rfl, ?_⟩) (by assumption) ?_
        rotate_left
        · (intro w hSw; (try dsimp only at hSw); go_simp; all_goals with_reducible rfl)
        (try simp only [Act.put, List.setIfInBounds_toArray, List.set_cons_zero, List.set_cons_succ])
        refine wpAnyH_take (i := 1) (v := ?_) (by rw [List.getElem?_toArray]; rfl) (by kernel_rfl) (by kernel_rfl) (by kernel_rfl) (by intro _ _ _ h; exact h) (Or.inl ⟨by rfl, ?_⟩) (by assumption) ?_
        rotate_left
        · (intro w hSw; (try dsimp only at hSw); go_simp; all_goals with_reducible rfl)
        (try simp only [Act.put, List.setIfInBounds_toArray, List.set_cons_zero, List.set_cons_succ])
        refine wpAnyH_take (i := 2) (v := ?_) (by rw [List.getElem?_toArray]; rfl) (by kernel_rfl) (by kernel_rfl) (by kernel_rfl) (by intro _ _ _ h; exact h) (Or.inl ⟨by rfl, ?_⟩) (by assumption) ?_
        rotate_left
        · (intro w hSw; (try dsimp only at hSw); go_simp; all_goals with_reducible rfl)
        (try simp only [Act.put, List.setIfInBounds_toArray, List.set_cons_zero, List.set_cons_succ])
        refine wpAnyH_take (i := 3) (v := ?_) (by rw [List.getElem?_toArray]; rfl) (by kernel_rfl) (by kernel_rfl) (by kernel_rfl) (by intro _ _ _ h; exact h) (Or.inl ⟨by rfl, ?_⟩) (by assumption) ?_
        rotate_left
        · (intro w hSw; (try dsimp only at hSw); go_simp; all_goals with_reducible rfl)
        (try simp only [Act.put, List.setIfInBounds_toArray, List.set_cons_zero, List.set_cons_succ])
        refine wpAnyH_take (i := 4) (v := ?_) (by rw [List.getElem?_toArray]; rfl) (by kernel_rfl) (by kernel_rfl) (by kernel_rfl) (by intro _ _ _ h; exact h) (Or.inl ⟨by rfl, ?_⟩) (by assumption) ?_
        rotate_left
        · (intro w hSw; (try dsimp only at hSw); go_simp; all_goals with_reducible rfl)
        (try simp only [Act.put, List.setIfInBounds_toArray, List.set_cons_zero, List.set_cons_succ])
        refine wpAnyH_ready (rs := [5, 9]) (by kernel_rfl) (by simp) ?_
        refine (AllReadyH.cons (by rw [List.getElem?_toArray]; rfl) (fun K hK => ?_) (AllReadyH.cons (by rw [List.getElem?_toArray]; rfl) (fun K hK => ?_) AllReadyH.nil))
        · go_simp
          refine (CM _).mono ?_; rintro e v ⟨rfl, hb⟩; clear l0 d0 d1 p0 p1 p2 p3 p4; (try clear n0 n1 n2 n3 n4); (replace ST := ST.below hb); (try (replace N := N.below hb)); clear hb; obtain ⟨l0, d0, d1⟩ := HAT.out _ ST; obtain ⟨p0, p1, p2, p3, p4⟩ := ST.1; (try (obtain ⟨n0, n1, n2, n3, n4⟩ := id N))
          (try go_wp2_with fail)
          refine hK.out _ _ ?_ (fun hHeld => ?_)
          · first | exact ⟨d0, d1, p1, p2⟩ | (simp (maxDischargeDepth := 6) [go_sem, *]; done)
          clear hK K
          (try simp only [Act.put, List.setIfInBounds_toArray, List.set_cons_zero, List.set_cons_succ])
          refine wpAnyH_take (i := 6) (v := ?_) (by rw [List.getElem?_toArray]; rfl) (by kernel_rfl) (by kernel_rfl) (by kernel_rfl) (by intro _ _ _ h; exact h) (Or.inl ⟨by rfl, ?_⟩) (by assumption) ?_
          rotate_left
          · (intro w hSw; (try dsimp only at hSw); go_simp; all_goals with_reducible rfl)
          (try simp only [Act.put, List.setIfInBounds_toArray, List.set_cons_zero, List.set_cons_succ])
          refine wpAnyH_take (i := 7) (v := ?_) (by rw [List.getElem?_toArray]; rfl) (by kernel_rfl) (by kernel_rfl) (by kernel_rfl) (by intro _ _ _ h; exact h) (Or.inl ⟨by rfl, ?_⟩) (by assumption) ?_
          rotate_left
          · (intro w hSw; (try dsimp only at hSw); go_simp; all_goals with_reducible rfl)
          (try simp only [Act.put, List.setIfInBounds_toArray, List.set_cons_zero, List.set_cons_succ])
          refine wpAnyH_take (i := 8) (v := ?_) (by rw [List.getElem?_toArray]; rfl) (by kernel_rfl) (by kernel_rfl) (by kernel_rfl) (by intro _ _ _ h; exact h) (Or.inl ⟨by rfl, ?_⟩) (by assumption) ?_
          rotate_left
          · (intro w hSw; (try dsimp only at hSw); go_simp; all_goals with_reducible rfl)
          (try simp only [Act.put, List.setIfInBounds_toArray, List.set_cons_zero, List.set_cons_succ])
          refine wpAnyH_ready (rs := [9]) (by kernel_rfl) (by simp) ?_
          refine (AllReadyH.cons (by rw [List.getElem?_toArray]; rfl) (fun K hK => ?_) AllReadyH.nil)
          go_simp
          (have N := Bx2.new v (.int .i64 0) (.int .i64 0) 28); (have hj := ST.lts); clear l0 d0 d1 p0 p1 p2 p3 p4; (try clear n0 n1 n2 n3 n4); (replace ST := ST.below (Below.nw v (.cells #[.int .i64 0, .int .i64 0] 28))); (generalize v.heap.size = jn at *); (have hgb : gb ≠ jn := by have := hj.2.2.1 gb rfl; omega); (generalize v.alloc (.cells #[.int .i64 0, .int .i64 0] 28) = v2 at *); obtain ⟨l0, d0, d1⟩ := HAT.out _ ST; obtain ⟨p0, p1, p2, p3, p4⟩ := ST.1; (try (obtain ⟨n0, n1, n2, n3, n4⟩ := id N))
          refine hK.out _ _ ?_ (fun hHeld => ?_)
          · first | exact ⟨d0, d1, p1, p2⟩ | (simp (maxDischargeDepth := 6) [go_sem, *]; done)
          clear hK K
          (try simp only [Act.put, List.setIfInBounds_toArray, List.set_cons_zero, List.set_cons_succ])
          refine wpAnyH_ready (rs := [10]) (by kernel_rfl) (by simp) ?_
          refine (AllReadyH.cons (by rw [List.getElem?_toArray]; rfl) (fun K hK => ?_) AllReadyH.nil)
          go_simp
          refine hK.out _ _ ?_ (fun hHeld => ?_)
          · first | exact ⟨d0, d1, p1, p2⟩ | (simp (maxDischargeDepth := 6) [go_sem, *]; done)
          clear hK K
          (try simp only [Act.put, List.setIfInBounds_toArray, List.set_cons_zero, List.set_cons_succ])
          refine wpAnyH_take (i := 11) (v := ?_) (by rw [List.getElem?_toArray]; rfl) (by kernel_rfl) (by kernel_rfl) (by kernel_rfl) (by intro _ _ _ h; exact h) (Or.inl ⟨by rfl, ?_⟩) (by assumption) ?_
          rotate_left
          · (intro w hSw; (try dsimp only at hSw); go_simp; all_goals with_reducible rfl)
          (try simp only [Act.put, List.setIfInBounds_toArray, List.set_cons_zero, List.set_cons_succ])
          refine wpAnyH_done (by kernel_rfl) ?_ _
          go_wp2_with fail
          go_meet
          case rel => exact ⟨_, rfl, rfl, ST.but (two_but _ _ _ _) hj⟩
        · go_simp
          (have N := Bx2.new v (.int .i64 0) (.int .i64 0) 28); (have hj := ST.lts); clear l0 d0 d1 p0 p1 p2 p3 p4; (try clear n0 n1 n2 n3 n4); (replace ST := ST.below (Below.nw v (.cells #[.int .i64 0, .int .i64 0] 28))); (generalize v.heap.size = jn at *); (have hgb : gb ≠ jn := by have := hj.2.2.1 gb rfl; omega); (generalize v.alloc (.cells #[.int .i64 0, .int .i64 0] 28) = v2 at *); obtain ⟨l0, d0, d1⟩ := HAT.out _ ST; obtain ⟨p0, p1, p2, p3, p4⟩ := ST.1; (try (obtain ⟨n0, n1, n2, n3, n4⟩ := id N))
          refine hK.out _ _ ?_ (fun hHeld => ?_)
          · first | exact ⟨d0, d1, p1, p2⟩ | (simp (maxDischargeDepth := 6) [go_sem, *]; done)
          clear hK K
          (try simp only [Act.put, List.setIfInBounds_toArray, List.set_cons_zero, List.set_cons_succ])
          refine wpAnyH_ready (rs := [5]) (by kernel_rfl) (by simp) ?_
          refine (AllReadyH.cons (by rw [List.getElem?_toArray]; rfl) (fun K hK => ?_) AllReadyH.nil)
          go_simp
          refine (CM _).mono ?_; rintro e v ⟨rfl, hb⟩; clear l0 d0 d1 p0 p1 p2 p3 p4; (try clear n0 n1 n2 n3 n4); (replace ST := ST.below hb); (try (replace N := N.below hb)); clear hb; obtain ⟨l0, d0, d1⟩ := HAT.out _ ST; obtain ⟨p0, p1, p2, p3, p4⟩ := ST.1; (try (obtain ⟨n0, n1, n2, n3, n4⟩ := id N))
          (try go_wp2_with fail)
          refine hK.out _ _ ?_ (fun hHeld => ?_)
          · first | exact ⟨d0, d1, p1, p2⟩ | (simp (maxDischargeDepth := 6) [go_sem, *]; done)
          clear hK K
          (try simp only [Act.put, List.setIfInBounds_toArray, List.set_cons_zero, List.set_cons_succ])
          refine wpAnyH_take (i := 6) (v := ?_) (by rw [List.getElem?_toArray]; rfl) (by kernel_rfl) (by kernel_rfl) (by kernel_rfl) (by intro _ _ _ h; exact h) (Or.inl ⟨by rfl, ?_⟩) (by assumption) ?_
          rotate_left
          · (intro w hSw; (try dsimp only at hSw); go_simp; all_goals with_reducible rfl)
          (try simp only [Act.put, List.setIfInBounds_toArray, List.set_cons_zero, List.set_cons_succ])
          refine wpAnyH_take (i := 7) (v := ?_) (by rw [List.getElem?_toArray]; rfl) (by kernel_rfl) (by kernel_rfl) (by kernel_rfl) (by intro _ _ _ h; exact h) (Or.inl ⟨by rfl, ?_⟩) (by assumption) ?_
          rotate_left
          · (intro w hSw; (try dsimp only at hSw); go_simp; all_goals with_reducible rfl)
          (try simp only [Act.put, List.setIfInBounds_toArray, List.set_cons_zero, List.set_cons_succ])
          refine wpAnyH_take (i := 8) (v := ?_) (by rw [List.getElem?_toArray]; rfl) (by kernel_rfl) (by kernel_rfl) (by kernel_rfl) (by intro _ _ _ h; exact h) (Or.inl ⟨by rfl, ?_⟩) (by assumption) ?_
          rotate_left
          · (intro w hSw; (try dsimp only at hSw); go_simp; all_goals with_reducible rfl)
          (try simp only [Act.put, List.setIfInBounds_toArray, List.set_cons_zero, List.set_cons_succ])
          refine wpAnyH_ready (rs := [10]) (by kernel_rfl) (by simp) ?_
          refine (AllReadyH.cons (by rw [List.getElem?_toArray]; rfl) (fun K hK => ?_) AllReadyH.nil)
          go_simp
          refine hK.out _ _ ?_ (fun hHeld => ?_)
          · first | exact ⟨d0, d1, p1, p2⟩ | (simp (maxDischargeDepth := 6) [go_sem, *]; done)
          clear hK K
          (try simp only [Act.put, List.setIfInBounds_toArray, List.set_cons_zero, List.set_cons_succ])
          refine wpAnyH_take (i := 11) (v := ?_) (by rw [List.getElem?_toArray]; rfl) (by kernel_rfl) (by kernel_rfl) (by kernel_rfl) (by intro _ _ _ h; exact h) (Or.inl ⟨by rfl, ?_⟩) (by assumption) ?_
          rotate_left
          · (intro w hSw; (try dsimp only at hSw); go_simp; all_goals with_reducible rfl)
          (try simp only [Act.put, List.setIfInBounds_toArray, List.set_cons_zero, List.set_cons_succ])
          refine wpAnyH_done (by kernel_rfl) ?_ _
          go_wp2_with fail
          go_meet
          case rel => exact ⟨_, rfl, rfl, ST.but (two_but _ _ _ _) hj⟩
      case rest =>
        obtain ⟨jb, rfl, rfl, ST'⟩ := hcut
        clear ST l0 d0 d1 p0 p1 p2 p3 p4 CM HAT
        have ST := ST'
        clear ST'
        generalize wc = w5 at *
        have MP := ST.2.2.1
        go_wp2_with fail
        refine (mark_any bm (m + k) Fk ci (!mB) pk _ MP (by omega) hwf HX.out).mono ?_
        rintro e w6 ⟨rfl, MP6, hg6⟩
        have ST6 : Hid (ISt w lo hi bm j2 (m + (k + 1)) (fun y => (lkP M m y).map (mkN C lo hi (k + 1))) C (.slice (some ⟨gb, 0, none⟩) C.length c0) (.slice (some ⟨gb', 0, none⟩) C.length c1) w6) := ST.mark hg6 (MP6.congr (fun z => by rw [HST.out z, HXI.out, HME.out, HFk.out]))
        clear MP MP6 hg6 ST
        go_wp2_with fail
        go_roundw
        case rel => exact ⟨k + 1, by omega, by go_num, ST6.out⟩
        case measure => simp [intOf]; omega
    · have hkn : k = C.length := by omega
      subst hkn
      have hli : ¬ (C.length : Int) < (C.length : Int) := by omega
      have HFM : Hid (FLP (fun y => (lkP M m y).map (mkN C lo hi C.length)) ((lst M m).map (mkO C lo hi))) := HF.out.map (mkN C lo hi C.length) (mkN_id C lo hi C.length)
      have MP := ST.2.2.1
      have hB := ST.2.2.2.2.2
      clear ST
      go_wp2_with fail
      refine (list_any bm _ _ _ _ MP HFM.out (by rw [List.length_map, lst_len]; omega)).mono ?_
      rintro e w9 ⟨v, rfl, O9, hb9⟩
      have hBs := hB.size
      replace hb9 := hB.trans (hb9.mono hB.size)
      obtain ⟨av, cv, rfl, _, _, _⟩ := ownF_src O9
      clear MP
      go_wp2_with fail
      go_ret
      exact ⟨.slice av (lst M m).length cv, rfl, by simpa only [List.length_map] using own_base O9 hBs, hb9⟩
theorem implPeersMark_any (a : Option Addr) (m c : Nat) (M : Nat → PT) (n d x y lo hi : Int) (w : World) (hm : m ≤ maxLen) (hs : SrcC w a (m * 5) (MFPeer M)) (wn : (Lit.int .i64 n).wf = true) (wd : (Lit.int .i64 d).wf = true) (wx : (Lit.int .i64 x).wf = true) (wy : (Lit.int .i64 y).wf = true) (wl : (Lit.int .i64 lo).wf = true) (wh : (Lit.int .i64 hi).wf = true) :
    Calls Tryz.prog 6 #[.slice a m c, .agg #[.int .i64 n, .int .i64 d], .int .i64 x, .int .i64 y, .agg #[.int .i64 lo, .int .i64 hi]] w fun e w' => ∃ v, e = .returned v ∧ w'.ownsRow w.heap.size 35 5 v (mrL M m n d x y lo hi).length (prow (mrL M m n d x y lo hi)) ∧ Below w.heap.size w w' := implPeersMark_w a m c M n d x y lo hi w hm hs
end Go.Proofs.YtkeijldfblgeaaaGreat
namespace Go.Proofs.YtkeijldfblgeaaaGreat
open Go.RowKit
set_option linter.unusedVariables false
def sN (C : List CT) (lo hi : Int) (k : Nat) (p : PT) : Bool := (mkN C lo hi k p).2.2.2.2
theorem fold_eq (lo hi : Int) : ∀ (C : List CT) (p : PT), C.foldl (stp lo hi) p = (p.1, p.2.1, p.2.2.1, p.2.2.2.1, (C.foldl (stp lo hi) p).2.2.2.2)
  | [], _ => rfl
  | c :: C, p => by
    rw [List.foldl_cons]
    have h := fold_eq lo hi C (stp lo hi p c)
    have e : (stp lo hi p c).1 = p.1 ∧ (stp lo hi p c).2.1 = p.2.1 ∧ (stp lo hi p c).2.2.1 = p.2.2.1 ∧ (stp lo hi p c).2.2.2.1 = p.2.2.2.1 := by unfold stp; split <;> exact ⟨rfl, rfl, rfl, rfl⟩
    rw [e.1, e.2.1, e.2.2.1, e.2.2.2] at h
    exact h
theorem mkN_eq (C : List CT) (lo hi : Int) (k : Nat) (p : PT) : mkN C lo hi k p = (p.1, p.2.1, p.2.2.1, p.2.2.2.1, sN C lo hi k p) := fold_eq lo hi _ p
theorem sN_yes {C : List CT} {lo hi : Int} {k : Nat} (hk : k < C.length) {p : PT} (h : (gC C k).1 = p.1) : sN C lo hi (k + 1) p = apB (gC C k) lo hi := by rw [sN, mkN_yes hk h]
theorem sN_no {C : List CT} {lo hi : Int} {k : Nat} (hk : k < C.length) {p : PT} (h : (gC C k).1 ≠ p.1) : sN C lo hi (k + 1) p = sN C lo hi k p := by rw [sN, mkN_no hk h]; rfl
def SSt (w : World) (lo hi : Int) (j2 : Nat) (C : List CT) (v0 v1 : Value) (K : List PT) (vo : Value) (wr : World) : Prop := Bx2 wr (w.heap.size + 1) (.int .i64 lo) (.int .i64 hi) ∧ Two wr j2 C v0 v1 ∧ wr.ownsRow (w.heap.size + 2) 35 5 vo K.length (prow K) ∧ ApR v0 vo ∧ ApR v1 vo ∧ w.heap.size + 1 < j2 ∧ Below w.heap.size w wr
theorem SSt.below {w : World} {lo hi : Int} {j2 : Nat} {C : List CT} {v0 v1 : Value} {K : List PT} {vo : Value} {wr wr' : World} (h : SSt w lo hi j2 C v0 v1 K vo wr) (hb : Below wr.heap.size wr wr') : SSt w lo hi j2 C v0 v1 K vo wr' := by
  obtain ⟨h1, h2, h3, h4, h5, h6, h7⟩ := h
  exact ⟨h1.below hb, h2.below hb, own_belK' h3 hb, h4, h5, h6, h7.trans (hb.mono h7.size)⟩
theorem SSt.drew {w : World} {lo hi : Int} {j2 : Nat} {C : List CT} {v0 v1 : Value} {K : List PT} {vo : Value} {wr : World} (h : SSt w lo hi j2 C v0 v1 K vo wr) : SSt w lo hi j2 C v0 v1 K vo wr.drew := by
  obtain ⟨h1, h2, h3, h4, h5, h6, h7⟩ := h
  exact ⟨h1, h2, h3, h4, h5, h6, Below.drew h7⟩
theorem SSt.lts {w : World} {lo hi : Int} {j2 : Nat} {C : List CT} {v0 v1 : Value} {K : List PT} {vo : Value} {wr : World} (h : SSt w lo hi j2 C v0 v1 K vo wr) : w.heap.size + 1 < wr.heap.size ∧ (∀ g, v0.ownBlock = some g → g < wr.heap.size) ∧ (∀ g, v1.ownBlock = some g → g < wr.heap.size) ∧ (∀ g, vo.ownBlock = some g → g < wr.heap.size) := ⟨h.1.1, fun g hg => (h.2.1.lts.1 g hg).2, fun g hg => (h.2.1.lts.2 g hg).2, fun g hg => (World.ownsRow.lt h.2.2.1 g hg).2⟩
theorem SSt.but {w : World} {lo hi : Int} {j2 j : Nat} {C : List CT} {v0 v1 : Value} {K : List PT} {vo : Value} {wr wr' : World} (h : SSt w lo hi j2 C v0 v1 K vo wr) (hb : But j wr wr') (hj : w.heap.size + 1 < j ∧ (∀ g, v0.ownBlock = some g → g < j) ∧ (∀ g, v1.ownBlock = some g → g < j) ∧ (∀ g, vo.ownBlock = some g → g < j)) : SSt w lo hi j2 C v0 v1 K vo wr' := by
  obtain ⟨h1, h2, h3, h4, h5, h6, h7⟩ := h
  exact ⟨h1.but hb (by omega), h2.but hb (fun g hg => by have := hj.2.1 g hg; omega) (fun g hg => by have := hj.2.2.1 g hg; omega), kept_ne h3 hb hj.2.2.2, h4, h5, h6, h7.trans (hb.below (by omega) h7.size)⟩
theorem SSt.add {w : World} {lo hi : Int} {j2 : Nat} {C : List CT} {v0 v1 : Value} {K K' : List PT} {vo v' : Value} {wr w9 : World} (h : SSt w lo hi j2 C v0 v1 K vo wr) (O9 : w9.ownsRow (w.heap.size + 2) 35 5 v' K'.length (prow K')) (hg : wr.grownBy w9 vo.ownBlock) (hn : ∀ g, v'.ownBlock = some g → vo.ownBlock = some g ∨ wr.heap.size ≤ g) : SSt w lo hi j2 C v0 v1 K' v' w9 := by
  have hl := h.lts
  obtain ⟨h1, h2, h3, h4, h5, h6, h7⟩ := h
  have hb1 : some (w.heap.size + 1) ≠ vo.ownBlock := fun e => by have := (World.ownsRow.lt h3 _ e.symm).1; omega
  exact ⟨h1.kept hg hb1, h2.kept hg h4.ne' h5.ne', O9, h4.grow hn hl.2.1, h5.grow hn hl.2.2.1, h6, h7.trans ((grown_belowK h3 hg (by omega)).mono (by omega))⟩
end Go.Proofs.YtkeijldfblgeaaaGreat
namespace Go.Proofs.YtkeijldfblgeaaaGreat
open Go.RowKit
set_option linter.unusedVariables false
theorem apB_two {c : CT} {lo hi : Int} (h1 : okI c.2.1 c.2.2 = true) (h2 : okI lo hi = true) : apB c lo hi = (decide (hi < c.2.1) || decide (c.2.2 < lo)) := by
  obtain ⟨c0, cl, ch⟩ := c
  have hb : okII cl ch lo hi = true := by simp [okII, h2]; exact h1
  have ⟨a1, a2, a3⟩ := okI_t (show okI cl ch = true from h1)
  have ⟨b1, b2, b3⟩ := okI_t h2
  show decide (0 < apartI cl ch lo hi) = (decide (hi < cl) || decide (ch < lo))
  rw [apartI_t hb]
  by_cases q1 : hi < cl
  · have e : 0 < imx 0 (imx cl lo - imn ch hi) := by unfold imx imn; split <;> split <;> split <;> omega
    simp [q1, e]
  · by_cases q2 : ch < lo
    · have e : 0 < imx 0 (imx cl lo - imn ch hi) := by unfold imx imn; split <;> split <;> split <;> omega
      simp [q2, e]
    · have e : ¬ 0 < imx 0 (imx cl lo - imn ch hi) := by unfold imx imn; split <;> split <;> split <;> omega
      rw [decide_eq_false e, decide_eq_false q1, decide_eq_false q2]; rfl
theorem mkO_eq (C : List CT) (lo hi : Int) (p : PT) : mkO C lo hi p = (p.1, p.2.1, p.2.2.1, p.2.2.2.1, sN C lo hi C.length p) := mkN_eq C lo hi C.length p
def suc (g : PT → PT) (M : Nat → PT) : Nat → Nat
  | 0 => 0
  | k + 1 => suc g M k + (if (g (M k)).2.2.2.2 then 0 else 1)
theorem suc_le (g : PT → PT) (M : Nat → PT) : ∀ k, suc g M k ≤ k
  | 0 => Nat.le_refl _
  | k + 1 => by have := suc_le g M k; rw [suc]; split <;> omega
theorem cnt_map (g : PT → PT) (M : Nat → PT) : ∀ k, (((lst M k).map g).filter (fun p => !p.2.2.2.2)).length = suc g M k
  | 0 => rfl
  | k + 1 => by
    rw [lst_succ, List.map_append, List.filter_append, List.length_append, cnt_map g M k, suc]
    congr 1
    cases h : (g (M k)).2.2.2.2 <;> simp [h]
theorem mark_ok {M : Nat → PT} {m : Nat} {C : List CT} {lo hi : Int} (h : oks M m = true) : oks (gP ((lst M m).map (mkO C lo hi))) ((lst M m).map (mkO C lo hi)).length = true := by
  refine oks_list (fun p hp => ?_) ?_
  · obtain ⟨q, hq, rfl⟩ := List.mem_map.1 hp
    obtain ⟨j, hj, rfl⟩ := lst_mem.1 hq
    have := (elP_t (oks_el h j hj)).1
    rw [mkO_eq]
    exact this
  · have h2 := (FLP.ofLst h).1
    refine List.pairwise_map.2 (h2.imp fun {a b} hab => ?_)
    rw [mkO_eq, mkO_eq]
    exact hab
theorem mark_sure {M : Nat → PT} {m : Nat} {C : List CT} {lo hi : Int} (h : oks M m = true) : (suL (gP ((lst M m).map (mkO C lo hi))) ((lst M m).map (mkO C lo hi)).length).length = suc (mkO C lo hi) M m := by
  rw [suL_t (mark_ok h), suN, List.length_map, lst_gP, cnt_map]
theorem mark_at {M : Nat → PT} {m k : Nat} {C : List CT} {lo hi : Int} (hk : k < m) : gP ((lst M m).map (mkO C lo hi)) k = mkO C lo hi (M k) := by
  rw [gP, List.getD_eq_getElem?_getD, List.getElem?_map, lst, List.getElem?_map, List.getElem?_range hk]
  rfl
theorem mark_one (n d x y : Int) : (mrL (gP [zP]) 1 n d x y 0 0).length = 1 := by
  rw [mrL_t (by decide) (by decide), List.length_map, lst_len]
end Go.Proofs.YtkeijldfblgeaaaGreat
namespace Go.Proofs.YtkeijldfblgeaaaGreat
open Go.RowKit
set_option linter.unusedVariables false
theorem BoxL.but {p k : Nat} {w w' : World} {a : Bool} {b c d : Int} (h : BoxL w k a b c d) (hw : But p w w') (hk : k ≠ p) : BoxL w' k a b c d := by
  obtain ⟨h0, h1, h2, h3, h4, f1, f2, f3, f4⟩ := h
  exact ⟨Nat.lt_of_lt_of_le h0 hw.2.2.2.1, by rw [hw.cell h0 hk]; exact h1, by rw [hw.cell h0 hk]; exact h2, by rw [hw.cell h0 hk]; exact h3, by rw [hw.cell h0 hk]; exact h4, by rw [hw.frozen h0 hk]; exact f1, by rw [hw.frozen h0 hk]; exact f2, by rw [hw.frozen h0 hk]; exact f3, by rw [hw.frozen h0 hk]; exact f4⟩
theorem Bx.butD {p k : Nat} {w w' : World} {x y : Int} (h : Bx w k x y) (hw : But p w w') (hk : k ≠ p) : Bx w' k x y :=
  ⟨Nat.lt_of_lt_of_le h.1 hw.2.2.2.1, by rw [hw.cell h.1 hk]; exact h.2.1, by rw [hw.cell h.1 hk]; exact h.2.2.1, by rw [hw.frozen h.1 hk]; exact h.2.2.2.1, by rw [hw.frozen h.1 hk]; exact h.2.2.2.2⟩
theorem CurOk.setL {w : World} {B p k : Nat} (h : CurOk w B p) (hk : k ≠ p) (hB : B ≤ k) (a : Bool) (b c d : Int) : CurOk (setL w k a b c d) B p := (((h.setOther hk hB _ _).setOther hk hB _ _).setOther hk hB _ _).setOther hk hB _ _
theorem But.setL {p k : Nat} {u w : World} (h : But p u w) (hk : u.heap.size ≤ k) (a : Bool) (b c d : Int) : But p u (setL w k a b c d) := (((h.setNew hk _ _).setNew hk _ _).setNew hk _ _).setNew hk _ _
theorem BoxL.setK {k : Nat} {w : World} {a : Bool} {b c d : Int} (h : BoxL w k a b c d) (a' : Bool) : BoxL (w.setCell ⟨k, 0, none⟩ (.bool a')) k a' b c d := by
  obtain ⟨h0, h1, h2, h3, h4, f1, f2, f3, f4⟩ := h
  exact ⟨by simpa using h0, World.cell?_setCell_same _ _ _ h1, by rw [World.cell?_setCell_other _ _ _ _ (by simp)]; exact h2, by rw [World.cell?_setCell_other _ _ _ _ (by simp)]; exact h3, by rw [World.cell?_setCell_other _ _ _ _ (by simp)]; exact h4, by simpa using f1, by simpa using f2, by simpa using f3, by simpa using f4⟩
theorem BoxL.setA {k : Nat} {w : World} {a : Bool} {b c d : Int} (h : BoxL w k a b c d) (d' : Int) : BoxL (w.setCell ⟨k, 3, none⟩ (.int .i64 d')) k a b c d' := by
  obtain ⟨h0, h1, h2, h3, h4, f1, f2, f3, f4⟩ := h
  exact ⟨by simpa using h0, by rw [World.cell?_setCell_other _ _ _ _ (by simp)]; exact h1, by rw [World.cell?_setCell_other _ _ _ _ (by simp)]; exact h2, by rw [World.cell?_setCell_other _ _ _ _ (by simp)]; exact h3, World.cell?_setCell_same _ _ _ h4, by simpa using f1, by simpa using f2, by simpa using f3, by simpa using f4⟩
set_option maxHeartbeats 3200000 in
theorem l6DrawDrift_any (B p : Nat) (w : World) (hcur : CurOk w B p) :
    Calls Tryz.prog 13 #[.pointer (some ⟨p, 0, none⟩)] w fun e w' => ∃ x y : Int, e = .returned (.agg #[.int .i64 x, .int .i64 y]) ∧ CurOk w' B p ∧ But p w w' := by
  have hpl := hcur.lt
  have hpw : w.heap.size ≠ p := by omega
  have hBw : B ≤ w.heap.size := by omega
  have A1 := Below.al w (.cells #[.int .i64 0, .int .i64 0] 26)
  have R0 := Bx.new w 0 0 26
  go_enter Tryz.func13, Tryz.ntmps13
  go_wp2_with fail
  refine (l2DrawDrift_any B p _ (by exact hcur.below A1)).mono ?_
  rintro e w1 ⟨x, y, rfl, w1c, w1b⟩
  have R1 := R0.butD w1b hpw
  have b1 : But p w w1 := (But.of_below A1).trans w1b
  have q1 := w1c.lt
  have hk : w1.heap.size ≠ p := by omega
  have A2 := Below.al w1 (.cells #[.int .i64 x, .int .i64 y] 26)
  have N1 := Bx.new w1 x y 26
  have hwk : w.heap.size < w1.heap.size := R1.1
  have n1 : w.heap.size ≠ w1.heap.size := by omega
  have n2 : w1.heap.size ≠ w.heap.size := by omega
  clear R0 A1 w1b hcur
  go_wp2_with fail
  refine (specDriftOk_any _ _ _).mono ?_
  rintro e w2 ⟨rfl, hb⟩
  have R2 := (R1.below A2).below hb
  have N2 := N1.below hb
  have c2 := (w1c.below A2).below hb
  have b2 : But p w w2 := (b1.alloc _).trans (But.of_below hb)
  clear R1 N1 b1 hb A2 w1c
  cases hd : okD x y
  · go_wp2_with fail
    refine (l1Once_any B p 4 _ c2).mono ?_
    rintro e w3 ⟨o, rfl, w3c, w3b⟩
    have R3 := R2.butD w3b hpw
    have N3 := N2.butD w3b hk
    have b3 := b2.trans w3b
    clear R2 N2 b2 w3b c2
    obtain ⟨g1, g2, g3, g4, g5⟩ := R3
    obtain ⟨m1, m2, m3, m4, m5⟩ := N3
    cases o
    · go_wp2_with fail
      exact bodyPost_ret (v := .agg #[.int .i64 1, .int .i64 20]) (by simp (maxDischargeDepth := 6) [results, Tryz.results13, go_sem, *]) rfl ⟨_, _, rfl, (w3c.setOther hpw hBw _ _).setOther hpw hBw _ _, (b3.setNew (Nat.le_refl _) _ _).setNew (Nat.le_refl _) _ _⟩
    · go_wp2_with fail
      exact bodyPost_ret (v := .agg #[.int .i64 x, .int .i64 y]) (by simp (maxDischargeDepth := 6) [results, Tryz.results13, go_sem, *]) rfl ⟨_, _, rfl, (w3c.setOther hpw hBw _ _).setOther hpw hBw _ _, (b3.setNew (Nat.le_refl _) _ _).setNew (Nat.le_refl _) _ _⟩
  · obtain ⟨g1, g2, g3, g4, g5⟩ := R2
    obtain ⟨m1, m2, m3, m4, m5⟩ := N2
    go_wp2_with fail
    exact bodyPost_ret (v := .agg #[.int .i64 x, .int .i64 y]) (by simp (maxDischargeDepth := 6) [results, Tryz.results13, go_sem, *]) rfl ⟨_, _, rfl, (c2.setOther hpw hBw _ _).setOther hpw hBw _ _, (b2.setNew (Nat.le_refl _) _ _).setNew (Nat.le_refl _) _ _⟩
end Go.Proofs.YtkeijldfblgeaaaGreat
namespace Go.Proofs.YtkeijldfblgeaaaGreat
open Go.RowKit
set_option linter.unusedVariables false
set_option maxRecDepth 100000 in
set_option maxHeartbeats 4000000 in
theorem l10DrawLife_any (B p : Nat) (w : World) (hcur : CurOk w B p) :
    Calls Tryz.prog 14 #[.pointer (some ⟨p, 0, none⟩)] w fun e w' => ∃ x y : Int, e = .returned (.tuple #[.int .i64 x, .int .i64 y]) ∧ CurOk w' B p ∧ But p w w' := by
  go_enter Tryz.func14, Tryz.ntmps14
  go_wp2_with fail
  refine (l1Below_any B p 60 _ hcur).mono ?_
  rintro e w1 ⟨z, rfl, z0, _, z2, _, hc, hb⟩
  have z3 := z2 (by omega)
  clear z2 hcur
  go_wp2_with fail
  refine (l1Below_any B p 90 _ hc).mono ?_
  rintro e w2 ⟨u, rfl, _, _, _, _, hc2, hb2⟩
  replace hb := hb.trans hb2
  clear hc hb2
  go_wp2_with fail
  refine (l1Once_any B p 20 _ hc2).mono ?_
  rintro e w3 ⟨b1, rfl, hc, hb3⟩
  replace hb := hb.trans hb3
  clear hc2 hb3
  cases b1
  · go_wp2_with fail
    refine (l1Once_any B p 20 _ hc).mono ?_
    rintro e w4 ⟨b2, rfl, hc2, hb3⟩
    replace hb := hb.trans hb3
    clear hc hb3
    cases b2
    · go_wp2_with fail
      exact bodyPost_ret (v := (.tuple #[.int .i64 (40 + z), .int .i64 u])) (by simp (maxDischargeDepth := 6) [results, Tryz.results14, go_sem, *]) rfl ⟨_, _, rfl, hc2, hb⟩
    · go_wp2_with fail
      refine (l2DrawCount_any B p _ hc2).mono ?_
      rintro e w5 ⟨y, rfl, hc, hb3⟩
      replace hb := hb.trans hb3
      clear hc2 hb3
      go_wp2_with fail
      exact bodyPost_ret (v := (.tuple #[.int .i64 (40 + z), .int .i64 y])) (by simp (maxDischargeDepth := 6) [results, Tryz.results14, go_sem, *]) rfl ⟨_, _, rfl, hc, hb⟩
  · go_wp2_with fail
    refine (l2DrawCount_any B p _ hc).mono ?_
    rintro e w4 ⟨x, rfl, hc2, hb3⟩
    replace hb := hb.trans hb3
    clear hc hb3
    go_wp2_with fail
    refine (l1Once_any B p 20 _ hc2).mono ?_
    rintro e w5 ⟨b2, rfl, hc, hb3⟩
    replace hb := hb.trans hb3
    clear hc2 hb3
    cases b2
    · go_wp2_with fail
      exact bodyPost_ret (v := (.tuple #[.int .i64 x, .int .i64 u])) (by simp (maxDischargeDepth := 6) [results, Tryz.results14, go_sem, *]) rfl ⟨_, _, rfl, hc, hb⟩
    · go_wp2_with fail
      refine (l2DrawCount_any B p _ hc).mono ?_
      rintro e w6 ⟨y, rfl, hc2, hb3⟩
      replace hb := hb.trans hb3
      clear hc hb3
      go_wp2_with fail
      exact bodyPost_ret (v := (.tuple #[.int .i64 x, .int .i64 y])) (by simp (maxDischargeDepth := 6) [results, Tryz.results14, go_sem, *]) rfl ⟨_, _, rfl, hc2, hb⟩
theorem CodeB.upM {w : World} {B B' : Nat} {a : Option Addr} {n : Nat} (h : CodeB w B a n) (hb : B ≤ B') : CodeB w B' a n := by
  rcases h with h | ⟨b, off, h1, h2, h3⟩
  · exact .inl h
  · exact .inr ⟨b, off, h1, by omega, h3⟩
/- The state of the draw: the list beside the cursor, the three boxes. -/
def Dm (w w1 : World) (B p j3 j6 : Nat) (v : Value) (L : List PT) (bn : Nat) (dn dd : Int) (wr : World) : Prop := Pw w1 B p v L wr ∧ Bx2 wr j3 (.int .i64 0) (.int .i64 0) ∧ Bx2 wr j6 (.int .i64 0) (.int .i64 0) ∧ Bx2 wr bn (.int .i64 dn) (.int .i64 dd) ∧ (j3 < p ∧ j6 < p ∧ p < bn) ∧ Below w.heap.size w wr
theorem Dm.call {w w1 : World} {B p j3 j6 : Nat} {v : Value} {L : List PT} {bn : Nat} {dn dd : Int} {wr wr' : World} (h : Dm w w1 B p j3 j6 v L bn dn dd wr) (hc : CurOk wr' B p) (hb : But p wr wr') (hw : w.heap.size ≤ j3) : Dm w w1 B p j3 j6 v L bn dn dd wr' := by
  obtain ⟨h1, h2, h3, h4, h5, h7⟩ := h
  exact ⟨h1.call hc hb, h2.but hb (by omega), h3.but hb (by omega), h4.but hb (by omega), h5, h7.trans (hb.below (by omega) h7.size)⟩
theorem Dm.drew {w w1 : World} {B p j3 j6 : Nat} {v : Value} {L : List PT} {bn : Nat} {dn dd : Int} {wr : World} (h : Dm w w1 B p j3 j6 v L bn dn dd wr) : Dm w w1 B p j3 j6 v L bn dn dd wr.drew := by
  obtain ⟨⟨a1, a2, a3, a4⟩, h2, h3, h4, h5, h7⟩ := h
  exact ⟨⟨a1, a2, ⟨a3.1, a3.2.1, a3.2.2.1, a3.2.2.2.1, a3.2.2.2.2⟩, a4⟩, h2, h3, h4, h5, Below.drew h7⟩
theorem four_own {w wr : World} {base j3 j6 B : Nat} {v : Value} {L : List PT} (h : wr.ownsRow base 35 5 v L.length (prow L)) (h3 : j3 < base) (h6 : j6 < base) (hw : Below B w wr) (b3 : B ≤ j3) (b6 : B ≤ j6) (hB : B ≤ base) (x y z u : Value) : ((((wr.setCell ⟨j3, 0, none⟩ x).setCell ⟨j3, 1, none⟩ y).setCell ⟨j6, 0, none⟩ z).setCell ⟨j6, 1, none⟩ u).ownsRow B 35 5 v L.length (prow L) ∧ Below B w ((((wr.setCell ⟨j3, 0, none⟩ x).setCell ⟨j3, 1, none⟩ y).setCell ⟨j6, 0, none⟩ z).setCell ⟨j6, 1, none⟩ u) :=
  ⟨own_base (own_butK (own_butK h (((But.refl j3 wr).setCell 0 x).setCell 1 y) h3) (((But.refl j6 _).setCell 0 z).setCell 1 u) h6) hB, (((hw.setCell (p := ⟨j3, 0, none⟩) b3 x).setCell (p := ⟨j3, 1, none⟩) b3 y).setCell (p := ⟨j6, 0, none⟩) b6 z).setCell (p := ⟨j6, 1, none⟩) b6 u⟩
set_option maxRecDepth 100000 in
set_option maxHeartbeats 8000000 in
theorem DrawPeersMark_any (a : Option Addr) (n c : Nat) (w : World) (hn : n ≤ 1048576) (hcode : CodeB w w.heap.size a n) :
    Calls Tryz.prog 5 #[.slice a n c] w fun e w' => ∃ (v : Value) (L : List PT) (dn dd x y lo hi : Int), e = .returned (.tuple #[v, .agg #[.int .i64 dn, .int .i64 dd], .int .i64 x, .int .i64 y, .agg #[.int .i64 lo, .int .i64 hi]]) ∧ w'.ownsRow w.heap.size 35 5 v L.length (prow L) ∧ L.length ≤ 9 ∧ Below w.heap.size w w' := by
  have A0 := Below.nw w (.cells #[.int .i64 0, .int .i64 0] 26)
  have A1 := Below.nw (w.alloc (.cells #[.int .i64 0, .int .i64 0] 26)) (.cells #[.int .i64 0, .int .i64 0] 28)
  have R := (Bx2.new w (.int .i64 0) (.int .i64 0) 26).below A1
  have Q := Bx2.new (w.alloc (.cells #[.int .i64 0, .int .i64 0] 26)) (.int .i64 0) (.int .i64 0) 28
  have hs0 : ((w.alloc (.cells #[.int .i64 0, .int .i64 0] 26)).alloc (.cells #[.int .i64 0, .int .i64 0] 28)).heap.size = w.heap.size + 2 := by simp
  have A2 := A0.trans (A1.mono A0.size)
  have HC := (hcode.below A2).upM (show w.heap.size ≤ ((w.alloc (.cells #[.int .i64 0, .int .i64 0] 26)).alloc (.cells #[.int .i64 0, .int .i64 0] 28)).heap.size by omega)
  have hj3 : w.heap.size ≤ w.heap.size := Nat.le_refl _
  have hj6 : w.heap.size ≤ (w.alloc (.cells #[.int .i64 0, .int .i64 0] 26)).heap.size := A0.size
  have hne : w.heap.size ≠ (w.alloc (.cells #[.int .i64 0, .int .i64 0] 26)).heap.size := by simp
  have hl3 : w.heap.size < w.heap.size + 2 := by omega
  have hl6 : (w.alloc (.cells #[.int .i64 0, .int .i64 0] 26)).heap.size < w.heap.size + 2 := by simp
  clear hcode A0 A1
  go_enter Tryz.func5, Tryz.ntmps5
  go_upto_region 1 with fail
  simp only [World.size_alloc] at hj6 hne hl6 Q
  generalize (w.alloc (.cells #[.int .i64 0, .int .i64 0] 26)).alloc (.cells #[.int .i64 0, .int .i64 0] 28) = w0 at *
  rw [← hs0] at hl3 hl6
  clear hs0
  have hne' := Ne.symm hne
  go_wp2_with fail
  refine (l1New_any a n c _ hn HC).mono ?_
  rintro e w1 ⟨p, rfl, hcur, hb⟩
  have hpl := hcur.lt
  replace R := R.below hb
  replace Q := Q.below hb
  replace A2 := A2.trans (hb.mono A2.size)
  clear hb HC
  go_wp2_with fail
  refine (l10DrawAny_any w0.heap.size p _ hcur).mono ?_
  rintro e w2 ⟨v, L, rfl, ST, hL⟩
  have hB1 : w.heap.size ≤ w1.heap.size := A2.size
  replace R := R.but ST.2.2.1 (by omega)
  replace Q := Q.but ST.2.2.1 (by omega)
  replace A2 := A2.trans (ST.2.2.1.below (B := w.heap.size) (by omega) A2.size)
  obtain ⟨av, cv, rfl, _, _, _⟩ := ownF_src ST.2.1
  clear hcur
  go_wp2_with fail
  refine (l6DrawDrift_any w0.heap.size p _ ST.1).mono ?_
  rintro e w3 ⟨dn, dd, rfl, hc, hb⟩
  replace ST := ST.call hc hb
  replace R := R.but hb (by omega)
  replace Q := Q.but hb (by omega)
  replace A2 := A2.trans (hb.below (B := w.heap.size) (by omega) A2.size)
  clear hc hb
  have A3 := Below.nw w3 (.cells #[.int .i64 dn, .int .i64 dd] 26)
  have DS : Dm w w1 w0.heap.size p w.heap.size (w.heap.size + 1) (.slice av L.length cv) L w3.heap.size dn dd (w3.alloc (.cells #[.int .i64 dn, .int .i64 dd] 26)) := ⟨ST.below A3, R.below A3, Q.below A3, Bx2.new w3 (.int .i64 dn) (.int .i64 dd) 26, ⟨by omega, by omega, ST.1.lt.1⟩, A2.trans (A3.mono A2.size)⟩
  clear ST R Q A2 A3
  go_upto_region 4 with fail
  generalize w3.heap.size = bn at *
  generalize w3.alloc (.cells #[.int .i64 dn, .int .i64 dd] 26) = w4 at *
  generalize w.heap.size + 1 = j6 at *
  go_wp2_with fail
  refine (l10DrawLife_any w0.heap.size p _ DS.1.1).mono ?_
  rintro e w5 ⟨x, y, rfl, hc, hb⟩
  replace DS := DS.call hc hb hj3
  clear hc hb
  go_wp2_with fail
  refine (l1Below_any w0.heap.size p 120 _ DS.1.1).mono ?_
  rintro e w6 ⟨z, rfl, z0, _, z2, _, hc, hb⟩
  have z3 := z2 (by omega)
  replace DS := DS.call hc hb hj3
  clear hc hb z2
  go_wp2_with fail
  refine (l1Once_any w0.heap.size p 15 _ DS.1.1).mono ?_
  rintro e w7 ⟨bb, rfl, hc, hb⟩
  replace DS := DS.call hc hb hj3
  clear hc hb
  cases bb
  · skip
    obtain ⟨n0, n1, n2, n3, n4⟩ := DS.2.2.2.1
    go_upto_region 8 with fail
    refine wp_region_held_drew (S := (fun w' => w'.cell? ⟨bn, 0, none⟩ = some (.int .i64 dn) ∧ w'.cell? ⟨bn, 1, none⟩ = some (.int .i64 dd))) (by kernel_rfl) ?_ (fun hHeld => ?_)
    · first | exact ⟨n1, n2⟩ | (simp (maxDischargeDepth := 6) [go_sem, *]; done)
    clear n0 n1 n2 n3 n4
    replace DS := DS.drew
    generalize w7.drew = w8 at *
    obtain ⟨n0, n1, n2, n3, n4⟩ := DS.2.2.2.1
    refine wpAnyH_take (i := 0) (v := ?_) (by rw [List.getElem?_toArray]; rfl) (by kernel_rfl) (by kernel_rfl) (by kernel_rfl) (by intro _ _ _ h; exact h) (Or.inl ⟨by rfl, ?_⟩) (by assumption) ?_
    rotate_left
    · (intro w hSw; (try dsimp only at hSw); go_simp; all_goals with_reducible rfl)
    (try simp only [Act.put, List.setIfInBounds_toArray, List.set_cons_zero, List.set_cons_succ])
    refine wpAnyH_take (i := 1) (v := ?_) (by rw [List.getElem?_toArray]; rfl) (by kernel_rfl) (by kernel_rfl) (by kernel_rfl) (by intro _ _ _ h; exact h) (Or.inl ⟨by rfl, ?_⟩) (by assumption) ?_
    rotate_left
    · (intro w hSw; (try dsimp only at hSw); go_simp; all_goals with_reducible rfl)
    (try simp only [Act.put, List.setIfInBounds_toArray, List.set_cons_zero, List.set_cons_succ])
    refine wpAnyH_take (i := 2) (v := ?_) (by rw [List.getElem?_toArray]; rfl) (by kernel_rfl) (by kernel_rfl) (by kernel_rfl) (by intro _ _ _ h; exact h) (Or.inl ⟨by rfl, ?_⟩) (by assumption) ?_
    rotate_left
    · (intro w hSw; (try dsimp only at hSw); go_simp; all_goals with_reducible rfl)
    (try simp only [Act.put, List.setIfInBounds_toArray, List.set_cons_zero, List.set_cons_succ])
    refine wpAnyH_take (i := 3) (v := ?_) (by rw [List.getElem?_toArray]; rfl) (by kernel_rfl) (by kernel_rfl) (by kernel_rfl) (by intro _ _ _ h; exact h) (Or.inl ⟨by rfl, ?_⟩) (by assumption) ?_
    rotate_left
    · (intro w hSw; (try dsimp only at hSw); go_simp; all_goals with_reducible rfl)
    (try simp only [Act.put, List.setIfInBounds_toArray, List.set_cons_zero, List.set_cons_succ])
    refine wpAnyH_take (i := 4) (v := ?_) (by rw [List.getElem?_toArray]; rfl) (by kernel_rfl) (by kernel_rfl) (by kernel_rfl) (by intro _ _ _ h; exact h) (Or.inl ⟨by rfl, ?_⟩) (by assumption) ?_
    rotate_left
    · (intro w hSw; (try dsimp only at hSw); go_simp; all_goals with_reducible rfl)
    (try simp only [Act.put, List.setIfInBounds_toArray, List.set_cons_zero, List.set_cons_succ])
    refine wpAnyH_take (i := 5) (v := ?_) (by rw [List.getElem?_toArray]; rfl) (by kernel_rfl) (by kernel_rfl) (by kernel_rfl) (by intro _ _ _ h; exact h) (Or.inl ⟨by rfl, ?_⟩) (by assumption) ?_
    rotate_left
    · (intro w hSw; (try dsimp only at hSw); go_simp; all_goals with_reducible rfl)
    (try simp only [Act.put, List.setIfInBounds_toArray, List.set_cons_zero, List.set_cons_succ])
    refine wpAnyH_take (i := 6) (v := ?_) (by rw [List.getElem?_toArray]; rfl) (by kernel_rfl) (by kernel_rfl) (by kernel_rfl) (by intro _ _ _ h; exact h) (Or.inl ⟨by rfl, ?_⟩) (by assumption) ?_
    rotate_left
    · (intro w hSw; (try dsimp only at hSw); go_simp; all_goals with_reducible rfl)
    (try simp only [Act.put, List.setIfInBounds_toArray, List.set_cons_zero, List.set_cons_succ])
    refine wpAnyH_ready (rs := [7]) (by kernel_rfl) (by simp) ?_
    refine AllReadyH.cons (by rw [List.getElem?_toArray]; rfl) (fun K hK => ?_) AllReadyH.nil
    go_simp
    refine (l1Below_any w0.heap.size p 20 _ DS.1.1).mono ?_; rintro e v2 ⟨u, rfl, u0, _, u2, _, hc, hb⟩; (have u3 := u2 (by omega)); clear u2; clear n0 n1 n2 n3 n4; (replace DS := DS.call hc hb hj3); clear hc hb; obtain ⟨n0, n1, n2, n3, n4⟩ := DS.2.2.2.1; obtain ⟨r0, r1, r2, r3, r4⟩ := DS.2.1; obtain ⟨q0, q1, q2, q3, q4⟩ := DS.2.2.1; (have hb3 : w.heap.size ≠ bn := by have := DS.2.2.2.2.1; omega); (have hb6 : j6 ≠ bn := by have := DS.2.2.2.2.1; omega); have hb3' := Ne.symm hb3; have hb6' := Ne.symm hb6
    (try go_wp2_with fail)
    refine hK.out _ _ ?_ (fun hHeld => ?_)
    · first | exact ⟨n1, n2⟩ | (simp (maxDischargeDepth := 6) [go_sem, *]; done)
    clear hK K
    (try simp only [Act.put, List.setIfInBounds_toArray, List.set_cons_zero, List.set_cons_succ])
    refine wpAnyH_take (i := 8) (v := ?_) (by rw [List.getElem?_toArray]; rfl) (by kernel_rfl) (by kernel_rfl) (by kernel_rfl) (by intro _ _ _ h; exact h) (Or.inl ⟨by rfl, ?_⟩) (by assumption) ?_
    rotate_left
    · (intro w hSw; (try dsimp only at hSw); go_simp; all_goals with_reducible rfl)
    (try simp only [Act.put, List.setIfInBounds_toArray, List.set_cons_zero, List.set_cons_succ])
    refine wpAnyH_take (i := 9) (v := ?_) (by rw [List.getElem?_toArray]; rfl) (by kernel_rfl) (by kernel_rfl) (by kernel_rfl) (by intro _ _ _ h; exact h) (Or.inl ⟨by rfl, ?_⟩) (by assumption) ?_
    rotate_left
    · (intro w hSw; (try dsimp only at hSw); go_simp; all_goals with_reducible rfl)
    (try simp only [Act.put, List.setIfInBounds_toArray, List.set_cons_zero, List.set_cons_succ])
    refine wpAnyH_take (i := 10) (v := ?_) (by rw [List.getElem?_toArray]; rfl) (by kernel_rfl) (by kernel_rfl) (by kernel_rfl) (by intro _ _ _ h; exact h) (Or.inl ⟨by rfl, ?_⟩) (by assumption) ?_
    rotate_left
    · (intro w hSw; (try dsimp only at hSw); go_simp; all_goals with_reducible rfl)
    (try simp only [Act.put, List.setIfInBounds_toArray, List.set_cons_zero, List.set_cons_succ])
    refine wpAnyH_ready (rs := [11]) (by kernel_rfl) (by simp) ?_
    refine AllReadyH.cons (by rw [List.getElem?_toArray]; rfl) (fun K hK => ?_) AllReadyH.nil
    go_simp
    refine hK.out _ _ ?_ (fun hHeld => ?_)
    · first | exact ⟨n1, n2⟩ | (simp (maxDischargeDepth := 6) [go_sem, *]; done)
    clear hK K
    (try simp only [Act.put, List.setIfInBounds_toArray, List.set_cons_zero, List.set_cons_succ])
    refine wpAnyH_take (i := 12) (v := ?_) (by rw [List.getElem?_toArray]; rfl) (by kernel_rfl) (by kernel_rfl) (by kernel_rfl) (by intro _ _ _ h; exact h) (Or.inl ⟨by rfl, ?_⟩) (by assumption) ?_
    rotate_left
    · (intro w hSw; (try dsimp only at hSw); go_simp; all_goals with_reducible rfl)
    (try simp only [Act.put, List.setIfInBounds_toArray, List.set_cons_zero, List.set_cons_succ])
    refine wpAnyH_take (i := 13) (v := ?_) (by rw [List.getElem?_toArray]; rfl) (by kernel_rfl) (by kernel_rfl) (by kernel_rfl) (by intro _ _ _ h; exact h) (Or.inl ⟨by rfl, ?_⟩) (by assumption) ?_
    rotate_left
    · (intro w hSw; (try dsimp only at hSw); go_simp; all_goals with_reducible rfl)
    (try simp only [Act.put, List.setIfInBounds_toArray, List.set_cons_zero, List.set_cons_succ])
    refine wpAnyH_ready (rs := [14]) (by kernel_rfl) (by simp) ?_
    refine AllReadyH.cons (by rw [List.getElem?_toArray]; rfl) (fun K hK => ?_) AllReadyH.nil
    go_simp
    refine hK.out _ _ ?_ (fun hHeld => ?_)
    · first | exact ⟨n1, n2⟩ | (simp (maxDischargeDepth := 6) [go_sem, *]; done)
    clear hK K
    (try simp only [Act.put, List.setIfInBounds_toArray, List.set_cons_zero, List.set_cons_succ])
    refine wpAnyH_done (by kernel_rfl) ?_ _
    have hO := DS.1.2.1
    have hBB := DS.2.2.2.2.2
    have h3b : w.heap.size < w1.heap.size := by have := DS.2.2.2.2.1; omega
    have h6b : j6 < w1.heap.size := by have := DS.2.2.2.2.1; omega
    have hwr : IntKind.i64.wrap (40 + z + u) = 40 + z + u := Go.IntWalk.i64_in _ ⟨by omega, by omega⟩
    go_wp2_with fail
    exact bodyPost_ret (v := (.tuple #[.slice av L.length cv, .agg #[.int .i64 dn, .int .i64 dd], .int .i64 x, .int .i64 y, .agg #[.int .i64 (40 + z), .int .i64 (40 + z + u)]])) (by simp (maxDischargeDepth := 6) [results, Tryz.results5, go_sem, *]) rfl ⟨_, L, dn, dd, _, _, _, _, rfl, (four_own hO h3b h6b hBB hj3 hj6 hB1 _ _ _ _).1, by omega, (four_own hO h3b h6b hBB hj3 hj6 hB1 _ _ _ _).2⟩
  · skip
    obtain ⟨n0, n1, n2, n3, n4⟩ := DS.2.2.2.1
    go_upto_region 7 with fail
    refine wp_region_held_drew (S := (fun w' => w'.cell? ⟨bn, 0, none⟩ = some (.int .i64 dn) ∧ w'.cell? ⟨bn, 1, none⟩ = some (.int .i64 dd))) (by kernel_rfl) ?_ (fun hHeld => ?_)
    · first | exact ⟨n1, n2⟩ | (simp (maxDischargeDepth := 6) [go_sem, *]; done)
    clear n0 n1 n2 n3 n4
    replace DS := DS.drew
    generalize w7.drew = w8 at *
    obtain ⟨n0, n1, n2, n3, n4⟩ := DS.2.2.2.1
    refine wpAnyH_take (i := 0) (v := ?_) (by rw [List.getElem?_toArray]; rfl) (by kernel_rfl) (by kernel_rfl) (by kernel_rfl) (by intro _ _ _ h; exact h) (Or.inl ⟨by rfl, ?_⟩) (by assumption) ?_
    rotate_left
    · (intro w hSw; (try dsimp only at hSw); go_simp; all_goals with_reducible rfl)
    (try simp only [Act.put, List.setIfInBounds_toArray, List.set_cons_zero, List.set_cons_succ])
    refine wpAnyH_take (i := 1) (v := ?_) (by rw [List.getElem?_toArray]; rfl) (by kernel_rfl) (by kernel_rfl) (by kernel_rfl) (by intro _ _ _ h; exact h) (Or.inl ⟨by rfl, ?_⟩) (by assumption) ?_
    rotate_left
    · (intro w hSw; (try dsimp only at hSw); go_simp; all_goals with_reducible rfl)
    (try simp only [Act.put, List.setIfInBounds_toArray, List.set_cons_zero, List.set_cons_succ])
    refine wpAnyH_take (i := 2) (v := ?_) (by rw [List.getElem?_toArray]; rfl) (by kernel_rfl) (by kernel_rfl) (by kernel_rfl) (by intro _ _ _ h; exact h) (Or.inl ⟨by rfl, ?_⟩) (by assumption) ?_
    rotate_left
    · (intro w hSw; (try dsimp only at hSw); go_simp; all_goals with_reducible rfl)
    (try simp only [Act.put, List.setIfInBounds_toArray, List.set_cons_zero, List.set_cons_succ])
    refine wpAnyH_take (i := 3) (v := ?_) (by rw [List.getElem?_toArray]; rfl) (by kernel_rfl) (by kernel_rfl) (by kernel_rfl) (by intro _ _ _ h; exact h) (Or.inl ⟨by rfl, ?_⟩) (by assumption) ?_
    rotate_left
    · (intro w hSw; (try dsimp only at hSw); go_simp; all_goals with_reducible rfl)
    (try simp only [Act.put, List.setIfInBounds_toArray, List.set_cons_zero, List.set_cons_succ])
    refine wpAnyH_take (i := 4) (v := ?_) (by rw [List.getElem?_toArray]; rfl) (by kernel_rfl) (by kernel_rfl) (by kernel_rfl) (by intro _ _ _ h; exact h) (Or.inl ⟨by rfl, ?_⟩) (by assumption) ?_
    rotate_left
    · (intro w hSw; (try dsimp only at hSw); go_simp; all_goals with_reducible rfl)
    (try simp only [Act.put, List.setIfInBounds_toArray, List.set_cons_zero, List.set_cons_succ])
    refine wpAnyH_ready (rs := [5]) (by kernel_rfl) (by simp) ?_
    refine AllReadyH.cons (by rw [List.getElem?_toArray]; rfl) (fun K hK => ?_) AllReadyH.nil
    go_simp
    refine (l1DrawIval_any w0.heap.size p _ DS.1.1).mono ?_; rintro e v2 ⟨lo, hi, rfl, hc, hb⟩; clear n0 n1 n2 n3 n4; (replace DS := DS.call hc hb hj3); clear hc hb; obtain ⟨n0, n1, n2, n3, n4⟩ := DS.2.2.2.1; obtain ⟨r0, r1, r2, r3, r4⟩ := DS.2.1; obtain ⟨q0, q1, q2, q3, q4⟩ := DS.2.2.1; (have hb3 : w.heap.size ≠ bn := by have := DS.2.2.2.2.1; omega); (have hb6 : j6 ≠ bn := by have := DS.2.2.2.2.1; omega); have hb3' := Ne.symm hb3; have hb6' := Ne.symm hb6
    (try go_wp2_with fail)
    refine hK.out _ _ ?_ (fun hHeld => ?_)
    · first | exact ⟨n1, n2⟩ | (simp (maxDischargeDepth := 6) [go_sem, *]; done)
    clear hK K
    (try simp only [Act.put, List.setIfInBounds_toArray, List.set_cons_zero, List.set_cons_succ])
    refine wpAnyH_take (i := 6) (v := ?_) (by rw [List.getElem?_toArray]; rfl) (by kernel_rfl) (by kernel_rfl) (by kernel_rfl) (by intro _ _ _ h; exact h) (Or.inl ⟨by rfl, ?_⟩) (by assumption) ?_
    rotate_left
    · (intro w hSw; (try dsimp only at hSw); go_simp; all_goals with_reducible rfl)
    (try simp only [Act.put, List.setIfInBounds_toArray, List.set_cons_zero, List.set_cons_succ])
    refine wpAnyH_ready (rs := [7]) (by kernel_rfl) (by simp) ?_
    refine AllReadyH.cons (by rw [List.getElem?_toArray]; rfl) (fun K hK => ?_) AllReadyH.nil
    go_simp
    refine hK.out _ _ ?_ (fun hHeld => ?_)
    · first | exact ⟨n1, n2⟩ | (simp (maxDischargeDepth := 6) [go_sem, *]; done)
    clear hK K
    (try simp only [Act.put, List.setIfInBounds_toArray, List.set_cons_zero, List.set_cons_succ])
    refine wpAnyH_take (i := 8) (v := ?_) (by rw [List.getElem?_toArray]; rfl) (by kernel_rfl) (by kernel_rfl) (by kernel_rfl) (by intro _ _ _ h; exact h) (Or.inl ⟨by rfl, ?_⟩) (by assumption) ?_
    rotate_left
    · (intro w hSw; (try dsimp only at hSw); go_simp; all_goals with_reducible rfl)
    (try simp only [Act.put, List.setIfInBounds_toArray, List.set_cons_zero, List.set_cons_succ])
    refine wpAnyH_take (i := 9) (v := ?_) (by rw [List.getElem?_toArray]; rfl) (by kernel_rfl) (by kernel_rfl) (by kernel_rfl) (by intro _ _ _ h; exact h) (Or.inl ⟨by rfl, ?_⟩) (by assumption) ?_
    rotate_left
    · (intro w hSw; (try dsimp only at hSw); go_simp; all_goals with_reducible rfl)
    (try simp only [Act.put, List.setIfInBounds_toArray, List.set_cons_zero, List.set_cons_succ])
    refine wpAnyH_ready (rs := [10]) (by kernel_rfl) (by simp) ?_
    refine AllReadyH.cons (by rw [List.getElem?_toArray]; rfl) (fun K hK => ?_) AllReadyH.nil
    go_simp
    refine hK.out _ _ ?_ (fun hHeld => ?_)
    · first | exact ⟨n1, n2⟩ | (simp (maxDischargeDepth := 6) [go_sem, *]; done)
    clear hK K
    (try simp only [Act.put, List.setIfInBounds_toArray, List.set_cons_zero, List.set_cons_succ])
    refine wpAnyH_done (by kernel_rfl) ?_ _
    have hO := DS.1.2.1
    have hBB := DS.2.2.2.2.2
    have h3b : w.heap.size < w1.heap.size := by have := DS.2.2.2.2.1; omega
    have h6b : j6 < w1.heap.size := by have := DS.2.2.2.2.1; omega
    go_wp2_with fail
    exact bodyPost_ret (v := (.tuple #[.slice av L.length cv, .agg #[.int .i64 dn, .int .i64 dd], .int .i64 x, .int .i64 y, .agg #[.int .i64 lo, .int .i64 hi]])) (by simp (maxDischargeDepth := 6) [results, Tryz.results5, go_sem, *]) rfl ⟨_, L, dn, dd, _, _, _, _, rfl, (four_own hO h3b h6b hBB hj3 hj6 hB1 _ _ _ _).1, by omega, (four_own hO h3b h6b hBB hj3 hj6 hB1 _ _ _ _).2⟩
end Go.Proofs.YtkeijldfblgeaaaGreat
namespace Go.Proofs.YtkeijldfblgeaaaGreat
open Go.RowKit
set_option linter.unusedVariables false
open Go.Sort Go.Shelf Go.Lib
def fids (L : List PT) : List Int := (L.filter fun p => !p.2.2.2.2).map fun p => p.1
theorem fids_yes {L : List PT} {p : PT} (h : p.2.2.2.2 = false) : fids (L ++ [p]) = fids L ++ [p.1] := by simp [fids, h]
theorem fids_no {L : List PT} {p : PT} (h : p.2.2.2.2 = true) : fids (L ++ [p]) = fids L := by simp [fids, h]
theorem fids_len (L : List PT) : (fids L).length ≤ L.length := by
  rw [fids, List.length_map]
  exact List.length_filter_le _ _
theorem fids_perm {L K : List PT} (h : L.Perm K) : (fids L).Perm (fids K) := (h.filter _).map _
theorem fids_asc {F : Int → Option PT} {L : List PT} (h : FLP F L) : (fids L).Pairwise (· < ·) := by
  rw [fids, List.pairwise_map]
  exact h.1.filter _
theorem irow_map (L : List Int) : irow L = L.map (Value.int .i64) := by
  apply List.ext_getElem (by simp [irow])
  intro i h1 h2
  have hi : i < L.length := by simpa using h2
  simp [irow, MFInt, gI, hi]
theorem sort_asc {l m : List Int} (hp : l.Perm m) (hm : m.Pairwise (· < ·)) : l.mergeSort (fun x y => decide (x ≤ y)) = m := by
  have tr : ∀ a b c : Int, decide (a ≤ b) = true → decide (b ≤ c) = true → decide (a ≤ c) = true := fun a b c h1 h2 => by simp at *; omega
  have tuu' : ∀ a b : Int, (decide (a ≤ b) || decide (b ≤ a)) = true := fun a b => by simp; omega
  refine List.Perm.eq_of_pairwise (le := fun a b => decide (a ≤ b) = true) (fun a b _ _ h1 h2 => ?_) (List.pairwise_mergeSort tr tuu' _) (List.Pairwise.imp (fun {a b} hab => by simp; omega) hm) ((List.mergeSort_perm _ _).trans hp)
  simp at h1 h2
  omega
theorem sortI_any {l m : List Int} (hp : l.Perm m) (hm : m.Pairwise (· < ·)) (base : Nat) (v : Value) (w : World) (hl : l.length ≤ 64) (hown : w.ownsRow base 3 1 v l.length (irow l)) :
    Calls Tryz.prog 50 #[v] w fun e w' => e = .returned (.tuple #[]) ∧ w'.ownsRow base 3 1 v m.length (irow m) ∧ w.grownBy w' v.ownBlock := by
  rcases hown.2 with ⟨rfl, h0⟩ | ⟨g, cap, cur, rfl, hbase, hb, h1, h2, h3, h4⟩
  · have hc := Go.Proofs.AnyM.slices_Sort_int_none sortA none 0 w
    change Calls Tryz.prog 50 _ _ _ at hc
    have e1 : l = [] := List.eq_nil_of_length_eq_zero h0
    subst e1
    have e2 : m = [] := hp.nil_eq.symm
    subst e2
    refine hc.mono ?_
    rintro e w' ⟨rfl, rfl⟩
    exact ⟨rfl, hown, bel_grown (Below.refl _ _)⟩
  · have hH : Holds (Value.int .i64) w g 0 l.toArray := holds_laid (Value.int .i64) (N := l.length) rfl hb (by rw [Nat.mul_one, irow_map] at h4; exact h4)
    have hc := Go.Proofs.AnyM.slices_Sort_int sortA g 0 cap l w hH ((Array.getElem?_eq_some_iff.1 hb).1) (by omega)
    change Calls Tryz.prog 50 _ _ _ at hc
    rw [sort_asc hp hm] at hc
    refine hc.mono ?_
    rintro e w' ⟨rfl, n, os, rfl⟩
    have hlen := hp.length_eq
    refine ⟨rfl, ?_, grown_laid _ _⟩
    have q := own_laid (Value.int .i64) (n := n) (os := os) (ts := m) (N := m.length) (s := 1) (by omega) hbase hb (by omega) h2 h3
    rw [irow_map, hlen]
    exact q
set_option maxRecDepth 100000 in
set_option maxHeartbeats 8000000 in
theorem sure_any (b n : Nat) (F : Int → Option PT) (L : List PT) (w : World) (MP : MapP w b n F) (hF : FLP F L) (h9 : L.length ≤ 9) :
    Calls Tryz.prog 29 #[.map (some b)] w fun e w' => ∃ v, e = .returned v ∧ w'.ownsRow w.heap.size 3 1 v (fids L).length (irow (fids L)) ∧ Below w.heap.size w w' := by
  obtain ⟨D, hown, hD, hsz⟩ := MP.sized hF
  have hbl : b < w.heap.size := MP.lt
  have HF : Hid (FLP F L) := hF
  have HD : Hid (∀ x, (∀ z, D.atKey (.int .i64 x) z = atP (F x) z) ∧ Maps.has D (.int .i64 x) = (F x).isSome) := hD
  clear MP hF hD
  go_enter Tryz.func29, Tryz.ntmps29
  go_wp2_with (first
    | (at_range; refine wpList_range_own _ rfl _ 51 rfl 3 35 lawPk Tryz.underlying51 _ b n D rfl hown ?_; intro w0 hrg0 hg0 hs0))
  go_frame
  have B1 := grown_bel hg0 (Nat.le_refl _) (by simp)
  clear hown hg0 hs0
  go_loopw [3] (fun v wr => ∃ (left : Lit → Bool) (cnt : Nat) (acc : List PT), wr.ranges Tryz.prog 3 R0p b w.heap.size n D left cnt ∧ Met F left acc ∧ acc.length + cnt ≤ L.length ∧ wr.ownsRow w.heap.size 3 1 v (fids acc).length (irow (fids acc)) ∧ (∀ g, v.ownBlock = some g → g ≠ w.heap.size) ∧ Below w.heap.size w wr)
    (fun _ wr => wr.rangeLeft b w.heap.size)
  case atStart =>
    refine ⟨_, _, [], hrg0, ⟨List.nodup_nil, fun q => ⟨fun h => by simp at h, fun ⟨h1, h2⟩ => ?_⟩⟩, by simp [hsz], nil_int _ _, fun g hg => by simp [Value.ownBlock] at hg, B1⟩
    rw [(HD.out q.1).2, h1] at h2
    cases h2
  case round =>
    obtain ⟨left, cnt, acc, hrg, hM, hc, OW, hne, hB⟩ := hrel
    have HM : Hid (Met F left acc) := hM
    have hfl := fids_len acc
    clear hM
    have hBs := hB.size
    go_wp2_with (first
      | (at_next; refine wpList_next_ranges _ rfl _ rfl 3 lawPk R0p (Value.int .i64) pvU invKp invVp b w.heap.size n _ _ _ rfl hrg ?_ ?_))
    · intro _ hl0
      have hp : acc.Perm L := HM.out.perm HF.out hl0
      have CP : Hid _ := fun v w' h => sortI_any (fids_perm hp) (fids_asc HF.out) w.heap.size v w' (by omega) h
      clear hne hrg
      obtain ⟨av, cv, rfl, _, _, _⟩ := ownF_src OW
      go_wp2_with fail
      refine (CP.out _ _ OW).mono ?_
      rintro e w9 ⟨rfl, O9, hg9⟩
      have B9 := hB.trans (grown_belowK OW hg9 hBs)
      clear CP hg9
      go_wp2_with fail
      go_ret
      exact ⟨_, rfl, O9, B9⟩
    · intro x cf kl yd yp w2 cnt1 hkey hlk hv hat hrg1 hlt hg1 hs1 hen
      simp only [pvU] at hv hen ⊢
      generalize cf () = c at *
      obtain ⟨x', ex, rfl, _⟩ := Maps.keyOf_int_inv Tryz.underlying3 hkey
      obtain rfl : x = x' := by simpa using ex
      have hFx : F x = some c := met_one (HD.out x).1 hv hat
      have hx1 : c.1 = x := ((HF.out.2 x c).1 hFx).2
      have HM1 : Hid (Met F (fun z => left z && !z.sameKey (.int .i64 x)) (acc ++ [c])) := by
        subst hx1
        exact HM.out.step hFx hlk
      have HLE : Hid (wr.rangeLeft b w.heap.size = cnt) := hrg.left_eq
      obtain ⟨y0, y1, y2, y3, y4⟩ := c
      have HX : Hid (y0 = x) := hx1
      have O2 := World.ownsRow.kept OW hg1 (ne_blk hne)
      have B2 := hB.trans (grown_bel hg1 hBs (fun q hq e => by have := Option.some.inj e; omega))
      clear hkey hlk hv hat hg1 hs1 OW hB hrg HM hFx hx1
      simp only [pv] at hen ⊢
      have A1 := Below.nw w2 (.cells #[.int .i64 y0, .int .i64 y1, .int .i64 y2, .int .i64 y3, .bool y4] 35)
      have KB := Bx5.new w2 (.int .i64 y0) (.int .i64 y1) (.int .i64 y2) (.int .i64 y3) (.bool y4) 35
      have hr3 := hrg1.alloc (.cells #[.int .i64 y0, .int .i64 y1, .int .i64 y2, .int .i64 y3, .bool y4] 35)
      replace O2 := own_belK' O2 A1
      replace B2 := B2.trans (A1.mono B2.size)
      clear hrg1
      go_upto_region 5 with fail
      clear hen A1
      generalize hbk : w2.heap.size = bk at *
      generalize w2.alloc (.cells #[.int .i64 y0, .int .i64 y1, .int .i64 y2, .int .i64 y3, .bool y4] 35) = w3 at *
      obtain ⟨k9, k0, k1, k2, k3, k4, f0, f1, f2, f3, f4⟩ := id KB
      have hBs2 := B2.size
      have hlr := hr3.lt
      cases y4 with
      | true =>
        have HFD : Hid (fids (acc ++ [(y0, y1, y2, y3, true)]) = fids acc) := fids_no rfl
        go_wp2_with fail
        go_roundw
        case rel => exact ⟨_, cnt1, acc ++ [(y0, y1, y2, y3, true)], hr3, HM1.out, by simp; omega, by rw [HFD.out]; exact O2, hne, B2⟩
        case measure => rw [hr3.left_eq, HLE.out]; exact hlt
      | false =>
        have HFD : Hid (fids (acc ++ [(y0, y1, y2, y3, false)]) = fids acc ++ [x]) := by rw [Hid, fids_yes rfl, ← HX.out]
        generalize fids acc = la at *
        go_wp2_with (at_builtin; refine add_int rfl _ _ rfl w.heap.size la _ rfl O2 rfl (by omega) (by omega) ?_; intro v' w9 O9 hg9 hn9)
        have HO9 : Hid (w9.ownsRow w.heap.size 3 1 v' (la ++ [x]).length (irow (la ++ [x]))) := O9
        have B9 := B2.trans (grown_belowK O2 hg9 hBs2)
        have hr9 := hr3.kept hg9 (fun e => by have := (World.ownsRow.lt O2 b e.symm).1; omega) (fun e => hne _ e.symm rfl)
        have HN9 : Hid (∀ g, v'.ownBlock = some g → g ≠ w.heap.size) := fun g hg => by
          rcases hn9 g hg with q | q
          · exact hne g q
          · omega
        clear O9 hg9 hn9 O2 B2 hr3 k9 k0 k1 k2 k3 k4 f0 f1 f2 f3 f4 KB
        go_wp2_with fail
        go_roundw
        case rel => exact ⟨_, cnt1, acc ++ [(y0, y1, y2, y3, false)], hr9, HM1.out, by simp; omega, by rw [HFD.out]; exact HO9.out, HN9.out, B9⟩
        case measure => rw [hr9.left_eq, HLE.out]; exact hlt
set_option maxHeartbeats 1000000 in
theorem sure_nil (w : World) : Calls Tryz.prog 29 #[.map none] w fun e w' => e = .returned (.slice none 0 0) ∧ Below w.heap.size w w' := by
  have hrg := run_range_nilMap (P := Tryz.prog) w 51 3 35 Tryz.underlying51
  have hnx : ∀ ty, (Instr.next (.pointer (some ⟨w.heap.size, 0, none⟩)) false ty).run Tryz.prog (w.alloc (.mapIter none 0 #[] 0)) = _ := fun ty => run_next_nilMap w ty 0 0 #[]
  have hc := fun w' => Go.Proofs.AnyM.slices_Sort_int_none sortA none 0 w'
  change ∀ w', Calls Tryz.prog 50 _ _ _ at hc
  have B1 := Below.nw w (.mapIter none 0 #[] 0)
  go_enter Tryz.func29, Tryz.ntmps29
  go_wp2_with fail
  refine wp_loop_rounds 1 ?_
  rw [rounds_succ]
  go_wp2_with fail
  refine (hc _).mono ?_
  rintro e w' ⟨rfl, rfl⟩
  clear hrg hnx hc
  go_wp2_with fail
  go_ret
  exact ⟨rfl, B1⟩
set_option maxHeartbeats 1000000 in
theorem implPeersSure_any (a : Option Addr) (n c : Nat) (M : Nat → PT) (w : World) (hm : n ≤ maxLen) (hs : SrcC w a (n * 5) (MFPeer M)) :
    Calls Tryz.prog 10 #[.slice a n c] w fun e w' => ∃ v, e = .returned v ∧ w'.ownsRow w.heap.size 3 1 v (suL M n).length (irow (suL M n)) ∧ Below w.heap.size w w' := by
  cases h1 : oks M n
  · rw [suL_f h1]
    have C1 := rosterOf_bad a n c M w hm hs h1
    clear hs
    go_enter Tryz.func10, Tryz.ntmps10
    go_wp2_with fail
    refine C1.mono ?_
    rintro e w1 ⟨rfl, hb⟩
    go_wp2_with fail
    refine (sure_nil _).mono ?_
    rintro e w2 ⟨rfl, hb2⟩
    replace hb2 := hb.trans (hb2.mono hb.size)
    go_wp2_with fail
    go_ret
    exact ⟨_, rfl, nil_int _ _, hb2⟩
  · rw [suL_t h1]
    have C1 := rosterOf_ok a n c M w hm hs h1
    have HF : Hid (FLP (lkP M n) (lst M n)) := FLP.ofLst h1
    have hn8 := oks_le h1
    have hLn : (lst M n).length ≤ 9 := by rw [lst_len]; omega
    clear hs
    go_enter Tryz.func10, Tryz.ntmps10
    go_wp2_with fail
    refine C1.mono ?_
    rintro e w1 ⟨b, rfl, hbb, MP, hb⟩
    clear C1
    go_wp2_with fail
    refine (sure_any b n _ _ _ MP HF.out hLn).mono ?_
    rintro e w2 ⟨v, rfl, O2, hb2⟩
    replace hb2 := hb.trans (hb2.mono hb.size)
    obtain ⟨av, cv, rfl, _, _, _⟩ := ownF_src O2
    have hbs := hb.size
    go_wp2_with fail
    go_ret
    exact ⟨_, rfl, own_base O2 hbs, hb2⟩
end Go.Proofs.YtkeijldfblgeaaaGreat
