/- The contract of PeersMark in the program. -/
import Derived.Test.YtikbjljkakabdaaGreatMB0
import Derived.Test.YtikbjljkakabdaaGreatMB6
import Derived.Test.YtikbjljkakabdaaGreatMB41
namespace Go.Proofs.YtikbjljkakabdaaGreat
open Go.RowKit
set_option linter.unusedVariables false
set_option maxRecDepth 100000
set_option maxHeartbeats 16000000
theorem qn (b n : Nat) (F : Int → Option PT) (x : Int) (s : Bool) (p : PT) (w : World) (MP : bq w b n F) (hn : n < 1000) (wx : (Lit.int .i64 x).wf = true) (hx : F x = some p) :
 Calls Tryz.prog 150 #[.map (some b), .int .i64 x, .bool s] w fun e w' => e = .returned (.tuple #[]) ∧ bq w' b (n + 1) (fun y => if y = x then some (p.1, p.2.1, p.2.2.1, p.2.2.2.1, s) else F y) ∧ w.grownBy w' (some b) := by
 have hlk := MP.look wx
 rw [hx] at hlk
 obtain ⟨y0, y1, y2, y3, y4⟩ := p
 simp only [Option.getD, pv] at hlk
 have A1 := Below.nw w (.cells #[.int .i64 y0, .int .i64 y1, .int .i64 y2, .int .i64 y3, .bool y4] 154)
 have KB := Bx5.new w (.int .i64 y0) (.int .i64 y1) (.int .i64 y2) (.int .i64 y3) (.bool y4) 154
 have hbl := MP.lt
 replace MP := MP.below A1
 go_enter Tryz.func150, Tryz.ntmps150
 go_upto_region 1 with fail
 clear hlk
 have hsz : (w.alloc (.cells #[.int .i64 y0, .int .i64 y1, .int .i64 y2, .int .i64 y3, .bool y4] 154)).heap.size = w.heap.size + 1 := by simp
 generalize w.alloc (.cells #[.int .i64 y0, .int .i64 y1, .int .i64 y2, .int .i64 y3, .bool y4] 154) = w1 at *
 have k9 : _ ∧ _ := KB
 have KB2 := KB.set4 (.bool s)
 have MP2 := MP.setCell (a := ⟨w.heap.size, 4, none⟩) (by simp; omega) (.bool s)
 have G2 : Below w.heap.size w (w1.setCell ⟨w.heap.size, 4, none⟩ (.bool s)) := A1.setCell (Nat.le_refl _) _
 go_upto_region 2 with fail
 clear k9 KB MP A1
 generalize w1.setCell ⟨w.heap.size, 4, none⟩ (.bool s) = w2 at *
 have k9 : _ ∧ _ := KB2
 obtain ⟨w4, hrun, MP4, hg4⟩ := MP2.put wx (by unfold maxLen; omega) (y0, y1, y2, y3, s)
 simp only [pv] at hrun
 go_wp2_with fail
 go_end0
 exact ⟨rfl, MP4, ⟨hg4.os.trans G2.os, hg4.tape.trans G2.tape, hg4.output.trans G2.output, Nat.le_trans G2.size hg4.size, fun k hk hne => (hg4.block k (Nat.lt_of_lt_of_le hk G2.size) hne).trans (G2.block k hk)⟩⟩
def ISt (w : World) (lo hi : Int) (bm j2 nn : Nat) (F : Int → Option PT) (C : List CT) (v0 v1 : Value) (wr : World) : Prop := Bx2 wr (w.heap.size + 1) (.int .i64 lo) (.int .i64 hi) ∧ Two wr j2 C v0 v1 ∧ bq wr bm nn F ∧ w.heap.size + 1 < bm ∧ bm < j2 ∧ Below w.heap.size w wr
theorem ISt.below {w : World} {lo hi : Int} {bm j2 nn : Nat} {F : Int → Option PT} {C : List CT} {v0 v1 : Value} {wr wr' : World} (h : ISt w lo hi bm j2 nn F C v0 v1 wr) (hb : Below wr.heap.size wr wr') : ISt w lo hi bm j2 nn F C v0 v1 wr' := by
 obtain ⟨h1, h2, h3, h4, h5, h6⟩ := h
 exact ⟨h1.below hb, h2.below hb, h3.below hb, h4, h5, h6.trans (hb.mono h6.size)⟩
theorem ISt.drew {w : World} {lo hi : Int} {bm j2 nn : Nat} {F : Int → Option PT} {C : List CT} {v0 v1 : Value} {wr : World} (h : ISt w lo hi bm j2 nn F C v0 v1 wr) : ISt w lo hi bm j2 nn F C v0 v1 wr.drew := by
 obtain ⟨h1, h2, h3, h4, h5, h6⟩ := h
 exact ⟨h1, h2, h3, h4, h5, Below.drew h6⟩
theorem ISt.lts {w : World} {lo hi : Int} {bm j2 nn : Nat} {F : Int → Option PT} {C : List CT} {v0 v1 : Value} {wr : World} (h : ISt w lo hi bm j2 nn F C v0 v1 wr) : w.heap.size + 1 < wr.heap.size ∧ bm < wr.heap.size ∧ (∀ g, v0.ownBlock = some g → g < wr.heap.size) ∧ (∀ g, v1.ownBlock = some g → g < wr.heap.size) := ⟨h.1.1, h.2.2.1.lt, fun g hg => (h.2.1.lts.1 g hg).2, fun g hg => (h.2.1.lts.2 g hg).2⟩
theorem ISt.but {w : World} {lo hi : Int} {bm j2 nn j : Nat} {F : Int → Option PT} {C : List CT} {v0 v1 : Value} {wr wr' : World} (h : ISt w lo hi bm j2 nn F C v0 v1 wr) (hb : But j wr wr') (hj : w.heap.size + 1 < j ∧ bm < j ∧ (∀ g, v0.ownBlock = some g → g < j) ∧ (∀ g, v1.ownBlock = some g → g < j)) : ISt w lo hi bm j2 nn F C v0 v1 wr' := by
 obtain ⟨h1, h2, h3, h4, h5, h6⟩ := h
 exact ⟨h1.but hb (by omega), h2.but hb (fun g hg => by have := hj.2.2.1 g hg; omega) (fun g hg => by have := hj.2.2.2 g hg; omega), h3.but hb (by omega), h4, h5, h6.trans (hb.below (by omega) h6.size)⟩
theorem ISt.mark {w : World} {lo hi : Int} {bm j2 nn nn' : Nat} {F F' : Int → Option PT} {C : List CT} {v0 v1 : Value} {wr wr' : World} (h : ISt w lo hi bm j2 nn F C v0 v1 wr) (hg : wr.grownBy wr' (some bm)) (MP : bq wr' bm nn' F') : ISt w lo hi bm j2 nn' F' C v0 v1 wr' := by
 have hl := h.2.1.lts
 obtain ⟨h1, h2, h3, h4, h5, h6⟩ := h
 have hb := But.ofGrownK hg
 exact ⟨h1.but hb (by omega), h2.but hb (fun g hg => by have := (hl.1 g hg).1; omega) (fun g hg => by have := (hl.2 g hg).1; omega), MP, h4, h5, h6.trans (hb.below (by omega) h6.size)⟩
theorem wf07 {x : Int} (h : bX x = true) : (Lit.int .i64 x).wf = true := by
 have := gp h
 simp only [Lit.wf, Bool.and_eq_true, decide_eq_true_eq]
 exact ⟨by show (-9223372036854775808 : Int) ≤ x; omega, by show x ≤ (9223372036854775807 : Int); omega⟩
theorem e9 (a : Option Addr) (m c : Nat) (M : Nat → PT) (n d x y lo hi : Int) (w : World) (hm : m ≤ maxLen) (hs : az w a (m * 5) (am M)) :
 Calls Tryz.prog 111 #[.slice a m c, .agg #[.int .i64 n, .int .i64 d], .int .i64 x, .int .i64 y, .agg #[.int .i64 lo, .int .i64 hi]] w fun e w' => ∃ v, e = .returned v ∧ w'.ownsRow w.heap.size 154 5 v (mrL M m n d x y lo hi).length (bP (mrL M m n d x y lo hi)) ∧ Below w.heap.size w w' := by
 have B0 := (Below.nw w (.cells #[.int .i64 n, .int .i64 d] 61)).alloc (by simp) (.cells #[.int .i64 lo, .int .i64 hi] 47)
 have Q := (Bx2.new w (.int .i64 n) (.int .i64 d) 61).alloc (.cells #[.int .i64 lo, .int .i64 hi] 47)
 have P := Bx2.new (w.alloc (.cells #[.int .i64 n, .int .i64 d] 61)) (.int .i64 lo) (.int .i64 hi) 47
 simp only [World.size_alloc] at P
 have HS : Hid (az w a (m * 5) (am M)) := hs
 have hw0 : ((w.alloc (.cells #[.int .i64 n, .int .i64 d] 61)).alloc (.cells #[.int .i64 lo, .int .i64 hi] 47)).heap.size = w.heap.size + 2 := by simp
 have CC := fun (v : World) (hb : Below w.heap.size w v) => cC a m c M n d x y v hm (HS.out.below hb)
 clear hs
 cases h1 : oks M m
 ·rw [rQ h1]
  have C1 := jm a m c M _ hm (HS.out.below B0) h1
  go_enter Tryz.func111, Tryz.ntmps111
  go_upto_region 1 with fail
  generalize (w.alloc (.cells #[.int .i64 n, .int .i64 d] 61)).alloc (.cells #[.int .i64 lo, .int .i64 hi] 47) = w0 at *
  go_wp2_with fail
  refine C1.mono ?_
  rintro e w1 ⟨rfl, hb⟩
  replace B0 := B0.trans (hb.mono B0.size)
  clear C1 CC
  go_wp2_with fail
  go_ret
  exact ⟨_, rfl, lc _ _, B0⟩
 have C1 := lz a m c M _ hm (HS.out.below B0) h1
 cases h2 : okI lo hi
 ·rw [rR h2]
  go_enter Tryz.func111, Tryz.ntmps111
  go_upto_region 1 with fail
  generalize (w.alloc (.cells #[.int .i64 n, .int .i64 d] 61)).alloc (.cells #[.int .i64 lo, .int .i64 hi] 47) = w0 at *
  go_wp2_with fail
  refine C1.mono ?_
  rintro e w1 ⟨bm, rfl, hbm, MP, hb⟩
  replace B0 := B0.trans (hb.mono B0.size)
  replace P := P.below hb
  clear C1 CC MP
  obtain ⟨p0, p1, p2, p3, p4⟩ := id P
  go_wp2_with fail
  refine (bB _ _ _).mono ?_
  rintro e w2 ⟨rfl, hb2⟩
  rw [h2]
  replace B0 := B0.trans (hb2.mono B0.size)
  clear hb2 p0 p1 p2 p3 p4
  go_wp2_with fail
  go_ret
  exact ⟨_, rfl, lc _ _, B0⟩
 rw [rS h1 h2]
 have HF : Hid (FLP (lkP M m) (cP M m)) := FLP.ofLst h1
 have HCA : Hid (∀ k, k < (caL M m n d x y).length → okI (gC (caL M m n d x y) k).2.1 (gC (caL M m n d x y) k).2.2 = true ∧ ∃ P, P < m ∧ (M P).1 = (gC (caL M m n d x y) k).1) := fun k hk => rV hk
 have hCl := fk M m n d x y
 have HOK : Hid (oks M m = true) := h1
 have HI2 : Hid (okI lo hi = true) := h2
 have hm8 := dh h1
 generalize caL M m n d x y = C at *
 go_enter Tryz.func111, Tryz.ntmps111
 go_upto_region 1 with fail
 generalize (w.alloc (.cells #[.int .i64 n, .int .i64 d] 61)).alloc (.cells #[.int .i64 lo, .int .i64 hi] 47) = w0 at *
 go_wp2_with fail
 refine C1.mono ?_
 rintro e w1 ⟨bm, rfl, hbm, MP, hb⟩
 replace B0 := B0.trans (hb.mono B0.size)
 replace P := P.below hb
 replace Q := Q.below hb
 clear C1 hb
 obtain ⟨p0, p1, p2, p3, p4⟩ := id P
 go_wp2_with fail
 refine (bB _ _ _).mono ?_
 rintro e w2 ⟨rfl, hb2⟩
 rw [h2]
 replace B0 := B0.trans (hb2.mono B0.size)
 clear p0 p1 p2 p3 p4 h1 h2
 replace P := P.below hb2
 replace Q := Q.below hb2
 replace MP := MP.below hb2
 clear hb2
 have q0 : _ ∧ _ := Q
 go_wp2_with fail
 refine (CC _ B0).mono ?_
 rintro e w3 ⟨v0, v1, rfl, O0, O1, _, hb3⟩
 have ST : ISt w lo hi bm w2.heap.size m (lkP M m) C v0 v1 w3 := ⟨P.below hb3, ⟨by rw [List.length_map] at O0 ⊢; exact O0, by rw [List.length_map] at O1 ⊢; exact O1⟩, MP.below hb3, by omega, MP.lt, B0.trans (hb3.mono B0.size)⟩
 have HF0 : Hid (∀ y, lkP M m y = (lkP M m y).map (bs C lo hi 0)) := fun y => by cases lkP M m y <;> rfl
 have ST0 : ISt w lo hi bm w2.heap.size m (fun y => (lkP M m y).map (bs C lo hi 0)) C v0 v1 w3 := ⟨ST.1, ST.2.1, ST.2.2.1.congr HF0.out, ST.2.2.2⟩
 clear q0 Q P MP O0 O1 hb3 CC B0 hw0 ST HF0 hbm
 obtain ⟨a0, c0, rfl, _, _, _⟩ := aT ST0.2.1.1
 obtain ⟨a1, c1, rfl, _, _, _⟩ := aT ST0.2.1.2
 generalize hj2 : w2.heap.size = j2 at *
 clear hj2
 simp only [List.length_map] at ST0 ⊢
 go_wp2_with fail
 go_loopw [41] (fun i wr => ∃ k : Nat, k ≤ C.length ∧ i = .int .i64 k ∧ ISt w lo hi bm j2 (m + k) (fun y => (lkP M m y).map (bs C lo hi k)) C (.slice a0 C.length c0) (.slice a1 C.length c1) wr) (fun i _ => C.length - (intOf i).toNat)
 case atStart => exact ⟨0, Nat.zero_le _, rfl, ST0⟩
 case round =>
  clear ST0
  obtain ⟨k, hk, rfl, ST⟩ := hrel
  by_cases hlt : k < C.length
  ·obtain ⟨gb, gc, gb', gc', e0, e1, l0, l1, d0, d1, d2⟩ := ST.2.1.at hlt
   simp at e0 e1
   obtain ⟨rfl, rfl⟩ := e0
   obtain ⟨rfl, rfl⟩ := e1
   obtain ⟨hokc, P, hPm, hPid⟩ := HCA.out k hlt
   have hid := (ob HOK.out hPm).1
   rw [hPid] at hid
   have hFx : lkP M m (gC C k).1 = some (M P) := by rw [← hPid]; exact mA (fun i j h1 h2 => fu HOK.out h1 h2) hPm
   have HST : Hid (∀ z, (lkP M m z).map (bs C lo hi (k + 1)) = if z = (gC C k).1 then some ((gC C k).1, (bs C lo hi k (M P)).2.1, (bs C lo hi k (M P)).2.2.1, (bs C lo hi k (M P)).2.2.2.1, iJ (gC C k) lo hi) else (lkP M m z).map (bs C lo hi k)) := fun z => qp HF.out hlt hFx z
   have HX : Hid ((fun z => (lkP M m z).map (bs C lo hi k)) (gC C k).1 = some (bs C lo hi k (M P))) := by rw [Hid]; show (lkP M m (gC C k).1).map _ = _; rw [hFx]; rfl
   have HXI : Hid ((bs C lo hi k (M P)).1 = (gC C k).1) := by rw [Hid, gm]; exact hPid
   have HME : Hid ((!(aZ (gC C k).2.1 (gC C k).2.2 lo hi)) = iJ (gC C k) lo hi) := qo hokc HI2.out
   have hwf := wf07 hid
   have hli : (k : Int) < (C.length : Int) := by omega
   clear hokc hPm hPid hid hFx
   have HAT : Hid (∀ wq, ISt w lo hi bm j2 (m + k) (fun y => (lkP M m y).map (bs C lo hi k)) C (.slice (some ⟨gb, 0, none⟩) C.length c0) (.slice (some ⟨gb', 0, none⟩) C.length c1) wq → gb < wq.heap.size ∧ wq.cell? ⟨gb, k * 2, none⟩ = some (.int .i64 (gC C k).2.1) ∧ wq.cell? ⟨gb, k * 2 + 1, none⟩ = some (.int .i64 (gC C k).2.2)) := fun wq hq => by
    obtain ⟨ga, gca, ga', gca', e0, e1, l0, l1, d0, d1, d2⟩ := hq.2.1.at hlt
    simp at e0 e1
    obtain ⟨rfl, rfl⟩ := e0
    exact ⟨l0, d0, d1⟩
   generalize hFk : (fun y => (lkP M m y).map (bs C lo hi k)) = Fk at *
   have HFk : Hid (∀ z, (lkP M m z).map (bs C lo hi k) = Fk z) := fun z => by rw [← hFk]
   clear hFk
   generalize bs C lo hi k (M P) = pk at *
   generalize gC C k = ck at *
   obtain ⟨ci, cl, ch⟩ := ck
   dsimp only at *
   have CM := fun v => da cl ch lo hi v
   generalize sel (aZ cl ch lo hi) (imx cl lo) = U at *
   generalize sel (aZ cl ch lo hi) (imn ch hi) = D at *
   generalize aZ cl ch lo hi = mB at *
   go_upto_region 8 with fail
   clear d0 d1 d2 l0 l1
   obtain ⟨l0, d0, d1⟩ := HAT.out _ ST
   obtain ⟨p0, p1, p2, p3, p4⟩ := ST.1
   go_cut [17, 18] (fun s8 s9 wx => ∃ j : Nat, s8 = .pointer (some ⟨j, 0, none⟩) ∧ s9 = .bool mB ∧ ISt w lo hi bm j2 (m + k) Fk C (.slice (some ⟨gb, 0, none⟩) C.length c0) (.slice (some ⟨gb', 0, none⟩) C.length c1) wx)
   case first =>
    refine wp_region_held_drew (S := (fun w' => w'.cell? ⟨gb, k * 2, none⟩ = some (.int .i64 cl) ∧ w'.cell? ⟨gb, k * 2 + 1, none⟩ = some (.int .i64 ch) ∧ w'.cell? ⟨w.heap.size + 1, 0, none⟩ = some (.int .i64 lo) ∧ w'.cell? ⟨w.heap.size + 1, 1, none⟩ = some (.int .i64 hi))) (by kernel_rfl) ?_ (fun hHeld => ?_)
    ·first | exact ⟨d0, d1, p1, p2⟩ | (simp (maxDischargeDepth := 6) [go_sem, *]; done)
    clear l0 d0 d1 p0 p1 p2 p3 p4
    replace ST := ST.drew
    generalize wr.drew = v at *
    obtain ⟨l0, d0, d1⟩ := HAT.out _ ST; obtain ⟨p0, p1, p2, p3, p4⟩ := ST.1; (try (have n0 : _ ∧ _ := N))
    refine zT4 0 ?_
    refine zTk 4 ?_
    refine wpAnyH_ready (rs := [5, 9]) (by kernel_rfl) (by simp) ?_
    refine (zCc (fun K hK => ?_) (zR fun K hK => ?_))
    ·go_simp
     refine (CM _).mono ?_; rintro e v ⟨rfl, hb⟩; clear l0 d0 d1 p0 p1 p2 p3 p4; (try clear n0); (replace ST := ST.below hb); (try (replace N := N.below hb)); clear hb; obtain ⟨l0, d0, d1⟩ := HAT.out _ ST; obtain ⟨p0, p1, p2, p3, p4⟩ := ST.1; (try (have n0 : _ ∧ _ := N))
     (try go_wp2_with fail)
     refine hK.out _ _ ?_ (fun hHeld => ?_)
     ·first | exact ⟨d0, d1, p1, p2⟩ | (simp (maxDischargeDepth := 6) [go_sem, *]; done)
     clear hK K
     (try simp only [zA])
     refine zT2 6 ?_
     refine zTk 8 ?_
     refine zQ 9 fun K hK => ?_
     go_simp
     (have N := Bx2.new v (.int .i64 0) (.int .i64 0) 47); (have hj := ST.lts); clear l0 d0 d1 p0 p1 p2 p3 p4; (try clear n0); (replace ST := ST.below (Below.nw v (.cells #[.int .i64 0, .int .i64 0] 47))); (generalize v.heap.size = jn at *); (have hgb : gb ≠ jn := by have := hj.2.2.1 gb rfl; omega); (generalize v.alloc (.cells #[.int .i64 0, .int .i64 0] 47) = v2 at *); obtain ⟨l0, d0, d1⟩ := HAT.out _ ST; obtain ⟨p0, p1, p2, p3, p4⟩ := ST.1; (try (have n0 : _ ∧ _ := N))
     refine hK.out _ _ ?_ (fun hHeld => ?_)
     ·first | exact ⟨d0, d1, p1, p2⟩ | (simp (maxDischargeDepth := 6) [go_sem, *]; done)
     clear hK K
     (try simp only [zA])
     refine zQ 10 fun K hK => ?_
     go_simp
     refine hK.out _ _ ?_ (fun hHeld => ?_)
     ·first | exact ⟨d0, d1, p1, p2⟩ | (simp (maxDischargeDepth := 6) [go_sem, *]; done)
     clear hK K
     (try simp only [zA])
     refine zTk 11 ?_
     refine wpAnyH_done (by kernel_rfl) ?_ _
     go_wp2_with fail
     go_meet
     case rel => exact ⟨_, rfl, rfl, ST.but (bS _ _ _ _) hj⟩
    ·go_simp
     (have N := Bx2.new v (.int .i64 0) (.int .i64 0) 47); (have hj := ST.lts); clear l0 d0 d1 p0 p1 p2 p3 p4; (try clear n0); (replace ST := ST.below (Below.nw v (.cells #[.int .i64 0, .int .i64 0] 47))); (generalize v.heap.size = jn at *); (have hgb : gb ≠ jn := by have := hj.2.2.1 gb rfl; omega); (generalize v.alloc (.cells #[.int .i64 0, .int .i64 0] 47) = v2 at *); obtain ⟨l0, d0, d1⟩ := HAT.out _ ST; obtain ⟨p0, p1, p2, p3, p4⟩ := ST.1; (try (have n0 : _ ∧ _ := N))
     refine hK.out _ _ ?_ (fun hHeld => ?_)
     ·first | exact ⟨d0, d1, p1, p2⟩ | (simp (maxDischargeDepth := 6) [go_sem, *]; done)
     clear hK K
     (try simp only [zA])
     refine zQ 5 fun K hK => ?_
     go_simp
     refine (CM _).mono ?_; rintro e v ⟨rfl, hb⟩; clear l0 d0 d1 p0 p1 p2 p3 p4; (try clear n0); (replace ST := ST.below hb); (try (replace N := N.below hb)); clear hb; obtain ⟨l0, d0, d1⟩ := HAT.out _ ST; obtain ⟨p0, p1, p2, p3, p4⟩ := ST.1; (try (have n0 : _ ∧ _ := N))
     (try go_wp2_with fail)
     refine hK.out _ _ ?_ (fun hHeld => ?_)
     ·first | exact ⟨d0, d1, p1, p2⟩ | (simp (maxDischargeDepth := 6) [go_sem, *]; done)
     clear hK K
     (try simp only [zA])
     refine zT2 6 ?_
     refine zTk 8 ?_
     refine zQ 10 fun K hK => ?_
     go_simp
     refine hK.out _ _ ?_ (fun hHeld => ?_)
     ·first | exact ⟨d0, d1, p1, p2⟩ | (simp (maxDischargeDepth := 6) [go_sem, *]; done)
     clear hK K
     (try simp only [zA])
     refine zTk 11 ?_
     refine wpAnyH_done (by kernel_rfl) ?_ _
     go_wp2_with fail
     go_meet
     case rel => exact ⟨_, rfl, rfl, ST.but (bS _ _ _ _) hj⟩
   case rest =>
    obtain ⟨jb, rfl, rfl, ST'⟩ := hcut
    clear ST l0 d0 d1 p0 p1 p2 p3 p4 CM HAT
    have ST := ST'
    clear ST'
    generalize wc = w5 at *
    have MP := ST.2.2.1
    go_wp2_with fail
    refine (qn bm (m + k) Fk ci (!mB) pk _ MP (by omega) hwf HX.out).mono ?_
    rintro e w6 ⟨rfl, MP6, hg6⟩
    have ST6 : Hid (ISt w lo hi bm j2 (m + (k + 1)) (fun y => (lkP M m y).map (bs C lo hi (k + 1))) C (.slice (some ⟨gb, 0, none⟩) C.length c0) (.slice (some ⟨gb', 0, none⟩) C.length c1) w6) := ST.mark hg6 (MP6.congr (fun z => by rw [HST.out z, HXI.out, HME.out, HFk.out]))
    clear MP MP6 hg6 ST
    go_wp2_with fail
    go_roundw
    case rel => exact ⟨k + 1, by omega, by go_num, ST6.out⟩
    case measure => simp [intOf]; omega
  ·have hkn : k = C.length := by omega
   subst hkn
   have hli : ¬ (C.length : Int) < (C.length : Int) := by omega
   have HFM : Hid (FLP (fun y => (lkP M m y).map (bs C lo hi C.length)) ((cP M m).map (mkO C lo hi))) := HF.out.map (bs C lo hi C.length) (gm C lo hi C.length)
   have MP := ST.2.2.1
   have hB := ST.2.2.2.2.2
   clear ST
   go_wp2_with fail
   refine (qk bm _ _ _ _ MP HFM.out (by rw [List.length_map, d6]; omega)).mono ?_
   rintro e w9 ⟨v, rfl, O9, hb9⟩
   have hBs := hB.size
   replace hb9 := hB.trans (hb9.mono hB.size)
   obtain ⟨av, cv, rfl, _, _, _⟩ := aT O9
   clear MP
   go_wp2_with fail
   go_ret
   exact ⟨.slice av (cP M m).length cv, rfl, by simpa only [List.length_map] using bp O9 hBs, hb9⟩
end Go.Proofs.YtikbjljkakabdaaGreat
