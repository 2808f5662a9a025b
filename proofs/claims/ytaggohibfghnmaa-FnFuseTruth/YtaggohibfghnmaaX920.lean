/- Contracts of HullBySubsets. -/
import Derived.Test.YtaggohibfghnmaaX919
import Derived.Deep.RegionHeld3
import Derived.Deep.DeepCutAuto
import Derived.WalkKit
import Derived.WalkSpells
import Derived.WalkLawsBesides
import Derived.Deep.RegionHeld
namespace Go.Proofs.Ytaggohibfghnmaa
open Go.RowKit
set_option linter.unusedVariables false
theorem put2_cell (w : World) {j b o : Nat} (x y : Int) (hb : b < w.heap.size) (hj : b ≠ j) : ((w.setCell ⟨j, 0, none⟩ (.int .i64 x)).setCell ⟨j, 1, none⟩ (.int .i64 y)).cell? ⟨b, o, none⟩ = w.cell? ⟨b, o, none⟩ := grown_cell (grown_put2 w j x y) hb hj
def gH (h : Int × Int) : Prop := h = (1000000000000, -1000000000000) ∨ okI h.1 h.2 = true
theorem top_no : okI 1000000000000 (-1000000000000) = false := by decide
theorem jn_top {m : Int × Int} (h : okI m.1 m.2 = true) : jn (1000000000000, -1000000000000) m = m := by
  have ⟨h1, h2, h3⟩ := okI_t h
  unfold jn imn imx
  obtain ⟨a, b⟩ := m
  simp only at h1 h2 h3 ⊢
  split <;> split <;> simp <;> omega
theorem jn_ok {h m : Int × Int} (h1 : okI h.1 h.2 = true) (h2 : okI m.1 m.2 = true) : okI (jn h m).1 (jn h m).2 = true := join_ok (by simp [okII, h1, h2])
theorem chs_good {f : Nat → Int × Int} {n : Nat} : ∀ (k i : Nat) (met h : Int × Int), okI met.1 met.2 = true → gH h → gH (chs f n k i met h)
  | 0, i, met, h, hm, hg => by
    rw [chs_zero]
    rcases hg with rfl | hg
    · rw [jn_top hm]; exact .inr hm
    · exact .inr (jn_ok hg hm)
  | k + 1, i, met, h, hm, hg => by
    rw [chs_succ]
    generalize n - k - i = c
    induction c with
    | zero => rw [chJ_zero]; exact hg
    | succ c ih =>
      rw [chJ_succ]
      unfold chA
      split
      · next hq => exact chs_good k _ _ _ hq ih
      · exact ih
theorem chJ_good {f : Nat → Int × Int} {n k i : Nat} {met h : Int × Int} (hg : gH h) (j : Nat) : gH (chJ f n k i met h j) := by
  induction j with
  | zero => rw [chJ_zero]; exact hg
  | succ c ih =>
    rw [chJ_succ]
    unfold chA
    split
    · next hq => exact chs_good k _ _ _ hq ih
    · exact ih
theorem meetB_in {a b c d : Int} (h1 : okI a b = true) (h2 : okI c d = true) : meetB a b c d = okI (imx a c) (imn b d) := by simp [meetB, okII, h1, h2]
theorem mt_all {m : Int × Int} (h : okI m.1 m.2 = true) : mt (-1000000000000, 1000000000000) m = m := by
  have ⟨h1, h2, h3⟩ := okI_t h
  unfold mt imn imx
  obtain ⟨a, b⟩ := m
  simp only at h1 h2 h3 ⊢
  split <;> split <;> simp <;> omega
theorem chA_t {f : Nat → Int × Int} {n k i : Nat} {met h : Int × Int} (hq : okI met.1 met.2 = true) : chA f n k i met h = chs f n k i met h := if_pos hq
theorem chA_f {f : Nat → Int × Int} {n k i : Nat} {met h : Int × Int} (hq : okI met.1 met.2 = false) : chA f n k i met h = h := if_neg (by simp [hq])
set_option maxRecDepth 100000 in
set_option maxHeartbeats 2000000 in
theorem choose0 (a : Option Addr) (n c : Nat) (f : Nat → Int × Int) (i : Nat) (ml mh hl hh : Int) (w : World) (hok : okI ml mh = true) (hg : gH (hl, hh)) :
    Calls Try.prog 45 #[.slice a n c, .int .i64 (i : Int), .int .i64 0, .agg #[.int .i64 ml, .int .i64 mh], .bool true, .agg #[.int .i64 (sel (okI hl hh) hl), .int .i64 (sel (okI hl hh) hh)], .bool (okI hl hh)] w fun e w' => e = .returned (.tuple #[.agg #[.int .i64 (sel (okI (jn (hl, hh) (ml, mh)).1 (jn (hl, hh) (ml, mh)).2) (jn (hl, hh) (ml, mh)).1), .int .i64 (sel (okI (jn (hl, hh) (ml, mh)).1 (jn (hl, hh) (ml, mh)).2) (jn (hl, hh) (ml, mh)).2)], .bool (okI (jn (hl, hh) (ml, mh)).1 (jn (hl, hh) (ml, mh)).2)]) ∧ Below w.heap.size w w' := by
  have M := ((Vb.new w ml mh 25).below (Below.al9 _ (.cells #[.int .i64 (sel (okI hl hh) hl), .int .i64 (sel (okI hl hh) hh)] 25))).below (Below.al9 _ (.cells #[.int .i64 0, .int .i64 0] 25))
  have X := (Vb.new (w.alloc (.cells #[.int .i64 ml, .int .i64 mh] 25)) (sel (okI hl hh) hl) (sel (okI hl hh) hh) 25).below (Below.al9 _ (.cells #[.int .i64 0, .int .i64 0] 25))
  have R := Vb.new ((w.alloc (.cells #[.int .i64 ml, .int .i64 mh] 25)).alloc (.cells #[.int .i64 (sel (okI hl hh) hl), .int .i64 (sel (okI hl hh) hh)] 25)) 0 0 25
  have B : Below w.heap.size w (((w.alloc (.cells #[.int .i64 ml, .int .i64 mh] 25)).alloc (.cells #[.int .i64 (sel (okI hl hh) hl), .int .i64 (sel (okI hl hh) hh)] 25)).alloc (.cells #[.int .i64 0, .int .i64 0] 25)) := by repeat (first | exact Below.refl _ _ | refine Below.drew ?_ | refine Below.alloc ?_ (by first | (simp; done) | (simp; omega) | omega) _ | refine Below.setCell ?_ (by first | (simp; done) | (simp; omega) | omega) _ | refine Below.trans ?_ (Below.mono (by assumption) (by first | (simp; done) | (simp; omega) | omega)))
  simp only [World.size_alloc] at X R
  cases hh9 : okI hl hh
  · have e : (hl, hh) = ((1000000000000, -1000000000000) : Int × Int) := hg.resolve_right (by simp [hh9])
    rw [hh9] at X
    have Ev : jn (hl, hh) (ml, mh) = (ml, mh) := by rw [e]; exact jn_top hok
    rw [Ev, hok, sel_t rfl, sel_t rfl]
    clear Ev e hg
    simp only [hh9] at M R B ⊢
    go_enter Try.func45, Try.ntmps45
    go_upto_region 1 with fail
    generalize (((w.alloc (.cells #[.int .i64 ml, .int .i64 mh] 25)).alloc (.cells #[.int .i64 (sel false hl), .int .i64 (sel false hh)] 25)).alloc (.cells #[.int .i64 0, .int .i64 0] 25)) = w0 at *
    obtain ⟨y0, y1, y2, y3, y4⟩ := id M
    have B9 : Below w.heap.size w ((w0.setCell ⟨w.heap.size + 1 + 1, 0, none⟩ (.int .i64 ml)).setCell ⟨w.heap.size + 1 + 1, 1, none⟩ (.int .i64 mh)) := Below.put2 B (by omega) ml mh
    have R9 : Vb ((w0.setCell ⟨w.heap.size + 1 + 1, 0, none⟩ (.int .i64 ml)).setCell ⟨w.heap.size + 1 + 1, 1, none⟩ (.int .i64 mh)) (w.heap.size + 1 + 1) ml mh := R.put ml mh
    obtain ⟨r0, r1, r2, r3, r4⟩ := R
    go_wp2_with fail
    generalize ((w0.setCell ⟨w.heap.size + 1 + 1, 0, none⟩ (.int .i64 ml)).setCell ⟨w.heap.size + 1 + 1, 1, none⟩ (.int .i64 mh)) = w9 at *
    obtain ⟨m0, m1, m2, m3, m4⟩ := R9
    exact bodyPost_ret (v := .tuple #[.agg #[.int .i64 ml, .int .i64 mh], .bool true]) (by simp (maxDischargeDepth := 6) [results, Try.results45, go_sem, m1, m2]) rfl ⟨rfl, B9⟩
  · have Ev : okI (jn (hl, hh) (ml, mh)).1 (jn (hl, hh) (ml, mh)).2 = true := jn_ok hh9 hok
    rw [Ev, sel_t rfl, sel_t rfl]
    clear Ev hg
    simp only [hh9, sel_t] at M X R B ⊢
    have CJ := fun (v : World) => specJoin_any hl hh ml mh v
    have hj : joinB hl hh ml mh = true := by simp [joinB, okII, hh9, hok]
    rw [hj] at CJ
    simp only [sel_t] at CJ
    show Calls Try.prog 45 _ w fun e w' => e = .returned (.tuple #[.agg #[.int .i64 (imn hl ml), .int .i64 (imx hh mh)], .bool true]) ∧ Below w.heap.size w w'
    generalize imn hl ml = jl at *
    generalize imx hh mh = jh at *
    go_enter Try.func45, Try.ntmps45
    go_upto_region 1 with fail
    generalize (((w.alloc (.cells #[.int .i64 ml, .int .i64 mh] 25)).alloc (.cells #[.int .i64 hl, .int .i64 hh] 25)).alloc (.cells #[.int .i64 0, .int .i64 0] 25)) = w0 at *
    obtain ⟨y0, y1, y2, y3, y4⟩ := id M
    obtain ⟨x0, x1, x2, x3, x4⟩ := id X
    go_wp2_with fail
    refine (CJ _).mono ?_
    rintro e w1 ⟨rfl, hb⟩
    clear x0 x1 x2 x3 x4 y0 y1 y2 y3 y4
    replace R := R.below hb
    replace B := B.trans (hb.mono B.size)
    clear hb
    have A := Below.al9 w1 (.cells #[.int .i64 jl, .int .i64 jh] 25)
    have Y := Vb.new w1 jl jh 25
    have hr1 := R.1
    replace R := R.below A
    replace B := B.trans (A.mono B.size)
    clear A
    go_upto_region 5 with fail
    generalize hs1 : w1.heap.size = j1 at *
    generalize w1.alloc (.cells #[.int .i64 jl, .int .i64 jh] 25) = w2 at *
    obtain ⟨y0, y1, y2, y3, y4⟩ := id Y
    have B9 : Below w.heap.size w ((w2.setCell ⟨w.heap.size + 1 + 1, 0, none⟩ (.int .i64 jl)).setCell ⟨w.heap.size + 1 + 1, 1, none⟩ (.int .i64 jh)) := Below.put2 B (by omega) jl jh
    have R9 : Vb ((w2.setCell ⟨w.heap.size + 1 + 1, 0, none⟩ (.int .i64 jl)).setCell ⟨w.heap.size + 1 + 1, 1, none⟩ (.int .i64 jh)) (w.heap.size + 1 + 1) jl jh := R.put jl jh
    obtain ⟨r0, r1, r2, r3, r4⟩ := R
    go_wp2_with fail
    generalize ((w2.setCell ⟨w.heap.size + 1 + 1, 0, none⟩ (.int .i64 jl)).setCell ⟨w.heap.size + 1 + 1, 1, none⟩ (.int .i64 jh)) = w9 at *
    obtain ⟨m0, m1, m2, m3, m4⟩ := R9
    exact bodyPost_ret (v := .tuple #[.agg #[.int .i64 jl, .int .i64 jh], .bool true]) (by simp (maxDischargeDepth := 6) [results, Try.results45, go_sem, m1, m2]) rfl ⟨rfl, B9⟩
set_option maxRecDepth 100000 in
set_option maxHeartbeats 4000000 in
theorem chooseT (a : Option Addr) (n c : Nat) (f : Nat → Int × Int) (hn : n ≤ 12) (ho : allOk f n = true) : ∀ (k i : Nat) (ml mh hl hh : Int) (w : World), (i : Int) + (k : Int) ≤ 9223372036854775807 → i ≤ n + 1 → okI ml mh = true → gH (hl, hh) → Src w a n f →
    Calls Try.prog 45 #[.slice a n c, .int .i64 (i : Int), .int .i64 (k : Int), .agg #[.int .i64 ml, .int .i64 mh], .bool true, .agg #[.int .i64 (sel (okI hl hh) hl), .int .i64 (sel (okI hl hh) hh)], .bool (okI hl hh)] w fun e w' => e = .returned (.tuple #[.agg #[.int .i64 (sel (okI (chs f n k i (ml, mh) (hl, hh)).1 (chs f n k i (ml, mh) (hl, hh)).2) (chs f n k i (ml, mh) (hl, hh)).1), .int .i64 (sel (okI (chs f n k i (ml, mh) (hl, hh)).1 (chs f n k i (ml, mh) (hl, hh)).2) (chs f n k i (ml, mh) (hl, hh)).2)], .bool (okI (chs f n k i (ml, mh) (hl, hh)).1 (chs f n k i (ml, mh) (hl, hh)).2)]) ∧ Below w.heap.size w w' := by
  intro k
  induction k with
  | zero =>
    intro i ml mh hl hh w hk hi hok hg hs
    rw [chs_zero]
    exact choose0 a n c f i ml mh hl hh w hok hg
  | succ k ih =>
    intro i ml mh hl hh w hk hi hok hg hs
    have HS : Hid (Src w a n f) := hs
    have HO : Hid (∀ q, q < n → okI (f q).1 (f q).2 = true) := allOk_at ho
    have HG : Hid (∀ j, gH (chJ f n k i (ml, mh) (hl, hh) j)) := chJ_good hg
    have HJ : Hid (∀ j, chJ f n k i (ml, mh) (hl, hh) (j + 1) = chA f n k (i + j + 1) (mt (ml, mh) (f (i + j))) (chJ f n k i (ml, mh) (hl, hh) j)) := chJ_succ f n k i (ml, mh) (hl, hh)
    have J0 := chJ_zero f n k i (ml, mh) (hl, hh)
    rw [chs_succ]
    have HI : Hid (∀ (i : Nat) (ml mh hl hh : Int) (w : World), (i : Int) + (k : Int) ≤ 9223372036854775807 → i ≤ n + 1 → okI ml mh = true → gH (hl, hh) → Src w a n f → Calls Try.prog 45 #[.slice a n c, .int .i64 (i : Int), .int .i64 (k : Int), .agg #[.int .i64 ml, .int .i64 mh], .bool true, .agg #[.int .i64 (sel (okI hl hh) hl), .int .i64 (sel (okI hl hh) hh)], .bool (okI hl hh)] w fun e w' => e = .returned (.tuple #[.agg #[.int .i64 (sel (okI (chs f n k i (ml, mh) (hl, hh)).1 (chs f n k i (ml, mh) (hl, hh)).2) (chs f n k i (ml, mh) (hl, hh)).1), .int .i64 (sel (okI (chs f n k i (ml, mh) (hl, hh)).1 (chs f n k i (ml, mh) (hl, hh)).2) (chs f n k i (ml, mh) (hl, hh)).2)], .bool (okI (chs f n k i (ml, mh) (hl, hh)).1 (chs f n k i (ml, mh) (hl, hh)).2)]) ∧ Below w.heap.size w w') := ih
    clear ih hs ho hg
    have M := ((Vb.new w ml mh 25).below (Below.al9 _ (.cells #[.int .i64 (sel (okI hl hh) hl), .int .i64 (sel (okI hl hh) hh)] 25))).below (Below.al9 _ (.cells #[.int .i64 0, .int .i64 0] 25))
    have X := (Vb.new (w.alloc (.cells #[.int .i64 ml, .int .i64 mh] 25)) (sel (okI hl hh) hl) (sel (okI hl hh) hh) 25).below (Below.al9 _ (.cells #[.int .i64 0, .int .i64 0] 25))
    have R := Vb.new ((w.alloc (.cells #[.int .i64 ml, .int .i64 mh] 25)).alloc (.cells #[.int .i64 (sel (okI hl hh) hl), .int .i64 (sel (okI hl hh) hh)] 25)) 0 0 25
    have B : Below w.heap.size w (((w.alloc (.cells #[.int .i64 ml, .int .i64 mh] 25)).alloc (.cells #[.int .i64 (sel (okI hl hh) hl), .int .i64 (sel (okI hl hh) hh)] 25)).alloc (.cells #[.int .i64 0, .int .i64 0] 25)) := by repeat (first | exact Below.refl _ _ | refine Below.drew ?_ | refine Below.alloc ?_ (by first | (simp; done) | (simp; omega) | omega) _ | refine Below.setCell ?_ (by first | (simp; done) | (simp; omega) | omega) _ | refine Below.trans ?_ (Below.mono (by assumption) (by first | (simp; done) | (simp; omega) | omega)))
    simp only [World.size_alloc] at X R
    have X0 : Vb (((w.alloc (.cells #[.int .i64 ml, .int .i64 mh] 25)).alloc (.cells #[.int .i64 (sel (okI hl hh) hl), .int .i64 (sel (okI hl hh) hh)] 25)).alloc (.cells #[.int .i64 0, .int .i64 0] 25)) (w.heap.size + 1) (sel (okI (chJ f n k i (ml, mh) (hl, hh) 0).1 (chJ f n k i (ml, mh) (hl, hh) 0).2) (chJ f n k i (ml, mh) (hl, hh) 0).1) (sel (okI (chJ f n k i (ml, mh) (hl, hh) 0).1 (chJ f n k i (ml, mh) (hl, hh) 0).2) (chJ f n k i (ml, mh) (hl, hh) 0).2) := by rw [J0]; exact X
    have F0 : Hid (Value.bool (okI hl hh) = .bool (okI (chJ f n k i (ml, mh) (hl, hh) 0).1 (chJ f n k i (ml, mh) (hl, hh) 0).2)) := by rw [Hid, J0]
    have HC : Hid (∀ q h, okI (mt (ml, mh) (f q)).1 (mt (ml, mh) (f q)).2 = true → chA f n k (q + 1) (mt (ml, mh) (f q)) h = chs f n k (q + 1) (mt (ml, mh) (f q)) h) := fun q h hq => chA_t hq
    clear J0 X
    generalize chJ f n k i (ml, mh) (hl, hh) = CJ at *
    have hKm : ((k + 1 : Nat) : Int) - 1 = (k : Int) := by omega
    have hKp : 1 ≤ ((k + 1 : Nat) : Int) := by omega
    have hKn : Hid (((k + 1 : Nat) : Int) = (k : Int) + 1) := by rw [Hid]; omega
    have hKk : (k : Int) ≤ 9223372036854775807 := by omega
    generalize ((k + 1 : Nat) : Int) = K at *
    have hne0 : (K == 0) = false := by rw [beq_eq_false_iff_ne]; omega
    generalize (sel (okI hl hh) hl) = g1 at *
    generalize (sel (okI hl hh) hh) = g2 at *
    generalize okI hl hh = g3 at *
    go_enter Try.func45, Try.ntmps45
    go_wp2_with fail
    go_loopw [6, 18] (fun fo q wr => ∃ j : Nat, j ≤ n - k - i ∧ q = .int .i64 ((i + j : Nat) : Int) ∧ fo = .bool (okI (CJ j).1 (CJ j).2) ∧ Vb wr (w.heap.size + 1) (sel (okI (CJ j).1 (CJ j).2) (CJ j).1) (sel (okI (CJ j).1 (CJ j).2) (CJ j).2) ∧ Vb wr w.heap.size ml mh ∧ Vb wr (w.heap.size + 1 + 1) 0 0 ∧ Below w.heap.size w wr) (fun _ q _ => 14 - (intOf q).toNat)
    case atStart => exact ⟨0, Nat.zero_le _, rfl, F0.out, X0, M, R, B⟩
    case round =>
      clear X0 M R B F0
      obtain ⟨j, hj, rfl, rfl, X, M, R, B⟩ := hrel
      have hub : ((i + j : Nat) : Int) + K ≤ 9223372036854775807 := by have := hKn.out; omega
      have hub2 : (i : Int) + (j : Int) + K ≤ 9223372036854775807 := by have := hKn.out; omega
      by_cases hlt : j < n - k - i
      · have hli : ((i + j : Nat) : Int) + K ≤ (n : Int) := by rw [hKn.out]; omega
        rcases HS.out.below B with h0 | ⟨b, off, rfl, hp⟩
        · omega
        have hidx : ((i + j : Nat) : Int) < (n : Int) := by omega
        have hin : i + j < n := by omega
        have hnx := HJ.out j
        have hjn2 : j + 1 ≤ n - k - i := by omega
        obtain ⟨q, hq⟩ : ∃ q, i + j = q := ⟨_, rfl⟩
        rw [hq] at hli hidx hin hnx hub
        clear hub2
        have HQ : Hid (i + j = q) := hq
        rw [hq]
        clear hq
        have c0 := (hp.2 q hin).1
        have c1 := (hp.2 q hin).2
        have hbw : b < wr.heap.size := hp.1
        have HN : Hid (CJ (j + 1) = chA f n k (q + 1) (mt (ml, mh) (f q)) (CJ j)) := hnx
        have hof := HO.out q hin
        have hgj := HG.out j
        clear hnx hp
        have CM := fun (v : World) => specMeet_any ml mh (f q).1 (f q).2 v
        rw [meetB_in hok hof] at CM
        have HMT : Hid (mt (ml, mh) (f q) = (imx ml (f q).1, imn mh (f q).2)) := rfl
        have CI : okI (imx ml (f q).1) (imn mh (f q).2) = true → ∀ v : World, Src v (some ⟨b, off, none⟩) n f → Calls Try.prog 45 #[.slice (some ⟨b, off, none⟩) n c, .int .i64 ((q : Int) + 1), .int .i64 (k : Int), .agg #[.int .i64 (imx ml (f q).1), .int .i64 (imn mh (f q).2)], .bool true, .agg #[.int .i64 (sel (okI (CJ j).1 (CJ j).2) (CJ j).1), .int .i64 (sel (okI (CJ j).1 (CJ j).2) (CJ j).2)], .bool (okI (CJ j).1 (CJ j).2)] v fun e w' => e = .returned (.tuple #[.agg #[.int .i64 (sel (okI (CJ (j + 1)).1 (CJ (j + 1)).2) (CJ (j + 1)).1), .int .i64 (sel (okI (CJ (j + 1)).1 (CJ (j + 1)).2) (CJ (j + 1)).2)], .bool (okI (CJ (j + 1)).1 (CJ (j + 1)).2)]) ∧ Below v.heap.size v w' := fun hq v hS => by
          have := HI.out (q + 1) (imx ml (f q).1) (imn mh (f q).2) (CJ j).1 (CJ j).2 v (by have := hKn.out; omega) (by omega) hq hgj hS
          rw [show (((q + 1 : Nat) : Int)) = (q : Int) + 1 by omega] at this
          rw [HN.out, HMT.out, chA_t (by exact hq)]
          exact this
        have CN : okI (imx ml (f q).1) (imn mh (f q).2) = false → CJ (j + 1) = CJ j := fun hq => by rw [HN.out, HMT.out, chA_f (by exact hq)]
        have HSv : Hid (∀ v : World, Below w.heap.size w v → Src v (some ⟨b, off, none⟩) n f) := fun v hb => HS.out.below hb
        clear HI HJ HN HMT HG HC hgj
        generalize hfl : (f q).1 = fl at *
        generalize hfh : (f q).2 = fh at *
        have HFL : Hid ((f q).1 = fl) := hfl
        have HFH : Hid ((f q).2 = fh) := hfh
        clear hfl hfh
        have CNH : Hid (okI (imx ml fl) (imn mh fh) = false → CJ (j + 1) = CJ j) := CN
        clear CN
        generalize hob : okI (CJ j).1 (CJ j).2 = ob at *
        generalize hx1 : sel ob (CJ j).1 = x1v at *
        generalize hx2 : sel ob (CJ j).2 = x2v at *
        have HOB : Hid (okI (CJ j).1 (CJ j).2 = ob) := hob
        have HX1 : Hid (sel ob (CJ j).1 = x1v) := hx1
        have HX2 : Hid (sel ob (CJ j).2 = x2v) := hx2
        clear hob hx1 hx2
        have A := Below.al9 wr (.cells #[.int .i64 fl, .int .i64 fh] 25)
        have Y := Vb.new wr fl fh 25
        have hxs := X.1
        have hrs := R.1
        replace X := X.below A
        replace M := M.below A
        replace R := R.below A
        replace B := B.trans (A.mono B.size)
        clear A
        go_upto_region 10 with fail
        clear c0 c1
        generalize hjs : wr.heap.size = jy at *
        generalize wr.alloc (.cells #[.int .i64 fl, .int .i64 fh] 25) = v at *
        clear hjs
        cases hmt : okI (imx ml fl) (imn mh fh)
        · have EN := CNH.out hmt
          rw [hmt] at CM
          simp only [sel_f] at CM
          have HEN : Hid (CJ (j + 1) = CJ j) := EN
          clear EN CI hmt
          obtain ⟨y0, y1, y2, y3, y4⟩ := id Y
          obtain ⟨m0, m1, m2, m3, m4⟩ := id M
          have EL : ∀ v : World, Below w.heap.size w v → v.cell? ⟨b, off + q * 2, none⟩ = some (.int .i64 fl) ∧ v.cell? ⟨b, off + q * 2 + 1, none⟩ = some (.int .i64 fh) := fun v hB => by
            obtain ⟨b', off', ha, hp⟩ := (HSv.out v hB).resolve_left (by omega)
            simp at ha
            obtain ⟨rfl, rfl⟩ := ha
            exact ⟨by rw [← HFL.out]; exact (hp.2 q hin).1, by rw [← HFH.out]; exact (hp.2 q hin).2⟩
          have EB : ∀ v : World, Below w.heap.size w v → b < v.heap.size := fun v hB => by
            obtain ⟨b', off', ha, hp⟩ := (HSv.out v hB).resolve_left (by omega)
            simp at ha
            obtain ⟨rfl, rfl⟩ := ha
            exact hp.1
          obtain ⟨c0, c1⟩ := EL _ B
          have hyj := Y.1
          go_wp2_with fail
          refine wp_region_held_drew (S := (fun w' => w'.cell? ⟨w.heap.size, 0, none⟩ = some (.int .i64 ml) ∧ w'.cell? ⟨w.heap.size, 1, none⟩ = some (.int .i64 mh) ∧ w'.cell? ⟨b, off + q * 2, none⟩ = some (.int .i64 fl) ∧ w'.cell? ⟨b, off + q * 2 + 1, none⟩ = some (.int .i64 fh))) (by kernel_rfl) ?_ (fun hHeld => ?_)
          · first | exact ⟨m1, m2, c0, c1⟩ | exact ⟨s1, s2, s3, s4⟩ | (simp (maxDischargeDepth := 6) [go_sem, *]; done)
          (replace Y := Y.drew)
          (replace X := X.drew)
          (replace M := M.drew)
          (replace R := R.drew)
          (replace B := Below.drew B)
          clear y0 y1 y2 y3 y4 m0 m1 m2 m3 m4 c0 c1
          (generalize v.drew = v at *)
          obtain ⟨y0, y1, y2, y3, y4⟩ := id Y; obtain ⟨m0, m1, m2, m3, m4⟩ := id M; obtain ⟨c0, c1⟩ := EL _ B
          refine wpAnyH_take (i := 0) (v := ?_) (by rw [List.getElem?_toArray]; rfl) (by kernel_rfl) (by kernel_rfl) (by kernel_rfl) (by intro _ _ _ h; exact h) (Or.inl ⟨by rfl, ?_⟩) (by assumption) ?_
          rotate_left
          · (intro w hSw; (try dsimp only at hSw); go_simp; all_goals with_reducible rfl)
          (try simp only [Act.put, List.setIfInBounds_toArray, List.set_cons_zero, List.set_cons_succ])
          refine wpAnyH_take (i := 1) (v := ?_) (by rw [List.getElem?_toArray]; rfl) (by kernel_rfl) (by kernel_rfl) (by kernel_rfl) (by intro _ _ _ h; exact h) (Or.inl ⟨by rfl, ?_⟩) (by assumption) ?_
          rotate_left
          · (intro w hSw; (try dsimp only at hSw); go_simp; all_goals with_reducible rfl)
          (try simp only [Act.put, List.setIfInBounds_toArray, List.set_cons_zero, List.set_cons_succ])
          refine wpAnyH_take (i := 2) (v := ?_) (by rw [List.getElem?_toArray]; rfl) (by kernel_rfl) (by kernel_rfl) (by kernel_rfl) (by intro _ _ _ h; exact h) (Or.inl ⟨by rfl, ?_⟩) (by assumption) ?_
          rotate_left
          · (intro w hSw; (try dsimp only at hSw); go_simp; all_goals with_reducible rfl)
          (try simp only [Act.put, List.setIfInBounds_toArray, List.set_cons_zero, List.set_cons_succ])
          refine wpAnyH_take (i := 3) (v := ?_) (by rw [List.getElem?_toArray]; rfl) (by kernel_rfl) (by kernel_rfl) (by kernel_rfl) (by intro _ _ _ h; exact h) (Or.inl ⟨by rfl, ?_⟩) (by assumption) ?_
          rotate_left
          · (intro w hSw; (try dsimp only at hSw); go_simp; all_goals with_reducible rfl)
          (try simp only [Act.put, List.setIfInBounds_toArray, List.set_cons_zero, List.set_cons_succ])
          refine wpAnyH_take (i := 4) (v := ?_) (by rw [List.getElem?_toArray]; rfl) (by kernel_rfl) (by kernel_rfl) (by kernel_rfl) (by intro _ _ _ h; exact h) (Or.inl ⟨by rfl, ?_⟩) (by assumption) ?_
          rotate_left
          · (intro w hSw; (try dsimp only at hSw); go_simp; all_goals with_reducible rfl)
          (try simp only [Act.put, List.setIfInBounds_toArray, List.set_cons_zero, List.set_cons_succ])
          refine wpAnyH_ready (rs := [5]) (by kernel_rfl) (by simp) ?_
          refine AllReadyH.cons (by rw [List.getElem?_toArray]; rfl) (fun K hK => ?_) AllReadyH.nil
          go_simp
          refine (CM _).mono ?_; rintro e v2 ⟨rfl, hb⟩; clear y0 y1 y2 y3 y4 m0 m1 m2 m3 m4 c0 c1; (replace Y := Y.below hb); (replace X := X.below hb); (replace M := M.below hb); (replace R := R.below hb); (replace B := B.trans (hb.mono B.size)); clear hb; obtain ⟨y0, y1, y2, y3, y4⟩ := id Y; obtain ⟨m0, m1, m2, m3, m4⟩ := id M; obtain ⟨c0, c1⟩ := EL _ B; (have s1 : ((v2.setCell ⟨jy, 0, none⟩ (.int .i64 0)).setCell ⟨jy, 1, none⟩ (.int .i64 0)).cell? ⟨w.heap.size, 0, none⟩ = some (.int .i64 ml) := (put2_cell v2 0 0 m0 (by omega)).trans m1); (have s2 : ((v2.setCell ⟨jy, 0, none⟩ (.int .i64 0)).setCell ⟨jy, 1, none⟩ (.int .i64 0)).cell? ⟨w.heap.size, 1, none⟩ = some (.int .i64 mh) := (put2_cell v2 0 0 m0 (by omega)).trans m2); (have bv := EB _ B); (have s3 : ((v2.setCell ⟨jy, 0, none⟩ (.int .i64 0)).setCell ⟨jy, 1, none⟩ (.int .i64 0)).cell? ⟨b, off + q * 2, none⟩ = some (.int .i64 fl) := (put2_cell v2 0 0 bv (by omega)).trans c0); (have s4 : ((v2.setCell ⟨jy, 0, none⟩ (.int .i64 0)).setCell ⟨jy, 1, none⟩ (.int .i64 0)).cell? ⟨b, off + q * 2 + 1, none⟩ = some (.int .i64 fh) := (put2_cell v2 0 0 bv (by omega)).trans c1)
          (try go_wp2_with fail)
          refine hK.out _ _ ?_ (fun hHeld => ?_)
          · first | exact ⟨m1, m2, c0, c1⟩ | exact ⟨s1, s2, s3, s4⟩ | (simp (maxDischargeDepth := 6) [go_sem, *]; done)
          clear hK K
          (try simp only [Act.put, List.setIfInBounds_toArray, List.set_cons_zero, List.set_cons_succ])
          refine wpAnyH_take (i := 6) (v := ?_) (by rw [List.getElem?_toArray]; rfl) (by kernel_rfl) (by kernel_rfl) (by kernel_rfl) (by intro _ _ _ h; exact h) (Or.inl ⟨by rfl, ?_⟩) (by assumption) ?_
          rotate_left
          · (intro w hSw; (try dsimp only at hSw); go_simp; all_goals with_reducible rfl)
          (try simp only [Act.put, List.setIfInBounds_toArray, List.set_cons_zero, List.set_cons_succ])
          refine wpAnyH_take (i := 7) (v := ?_) (by rw [List.getElem?_toArray]; rfl) (by kernel_rfl) (by kernel_rfl) (by kernel_rfl) (by intro _ _ _ h; exact h) (Or.inl ⟨by rfl, ?_⟩) (by assumption) ?_
          rotate_left
          · (intro w hSw; (try dsimp only at hSw); go_simp; all_goals with_reducible rfl)
          (try simp only [Act.put, List.setIfInBounds_toArray, List.set_cons_zero, List.set_cons_succ])
          refine wpAnyH_take (i := 8) (v := ?_) (by rw [List.getElem?_toArray]; rfl) (by kernel_rfl) (by kernel_rfl) (by kernel_rfl) (by intro _ _ _ h; exact h) (Or.inl ⟨by rfl, ?_⟩) (by assumption) ?_
          rotate_left
          · (intro w hSw; (try dsimp only at hSw); go_simp; all_goals with_reducible rfl)
          (try simp only [Act.put, List.setIfInBounds_toArray, List.set_cons_zero, List.set_cons_succ])
          refine wpAnyH_ready (rs := [9]) (by kernel_rfl) (by simp) ?_
          refine AllReadyH.cons (by rw [List.getElem?_toArray]; rfl) (fun K hK => ?_) AllReadyH.nil
          go_simp
          refine hK.out _ _ ?_ (fun hHeld => ?_)
          · first | exact ⟨m1, m2, c0, c1⟩ | exact ⟨s1, s2, s3, s4⟩ | (simp (maxDischargeDepth := 6) [go_sem, *]; done)
          clear hK K
          (try simp only [Act.put, List.setIfInBounds_toArray, List.set_cons_zero, List.set_cons_succ])
          refine wpAnyH_take (i := 10) (v := ?_) (by rw [List.getElem?_toArray]; rfl) (by kernel_rfl) (by kernel_rfl) (by kernel_rfl) (by intro _ _ _ h; exact h) (Or.inl ⟨by rfl, ?_⟩) (by assumption) ?_
          rotate_left
          · (intro w hSw; (try dsimp only at hSw); go_simp; all_goals with_reducible rfl)
          (try simp only [Act.put, List.setIfInBounds_toArray, List.set_cons_zero, List.set_cons_succ])
          refine wpAnyH_done (by kernel_rfl) ?_ _
          clear s1 s2 s3 s4 m0 m1 m2 m3 m4 c0 c1
          have YY : Vb ((v2.setCell ⟨jy, 0, none⟩ (.int .i64 0)).setCell ⟨jy, 1, none⟩ (.int .i64 0)) jy 0 0 := Y.put 0 0
          have XX : Vb ((v2.setCell ⟨jy, 0, none⟩ (.int .i64 0)).setCell ⟨jy, 1, none⟩ (.int .i64 0)) (w.heap.size + 1) x1v x2v := X.putO (by omega) 0 0
          have MM : Vb ((v2.setCell ⟨jy, 0, none⟩ (.int .i64 0)).setCell ⟨jy, 1, none⟩ (.int .i64 0)) w.heap.size ml mh := M.putO (by omega) 0 0
          have RR : Vb ((v2.setCell ⟨jy, 0, none⟩ (.int .i64 0)).setCell ⟨jy, 1, none⟩ (.int .i64 0)) (w.heap.size + 1 + 1) 0 0 := R.putO (by omega) 0 0
          have BB : Below w.heap.size w ((v2.setCell ⟨jy, 0, none⟩ (.int .i64 0)).setCell ⟨jy, 1, none⟩ (.int .i64 0)) := Below.put2 B (by omega) 0 0
          clear Y X M R B y0 y1 y2 y3 y4
          generalize ((v2.setCell ⟨jy, 0, none⟩ (.int .i64 0)).setCell ⟨jy, 1, none⟩ (.int .i64 0)) = v at *
          have Y := YY
          have X := XX
          have M := MM
          have R := RR
          have B := BB
          clear YY XX MM RR BB
          go_wp2_with fail
          go_roundw
          case rel => exact ⟨j + 1, hjn2, by have := HQ.out; (try simp); omega, by rw [HEN.out, HOB.out], by rw [HEN.out, HOB.out, HX1.out, HX2.out]; exact X, M, R, B⟩
          case measure => simp [intOf]; have := HQ.out; omega
        · have CI2 := CI hmt
          rw [hmt] at CM
          simp only [sel_t] at CM
          clear CI hmt
          generalize imx ml fl = t1 at *
          generalize imn mh fh = t2 at *
          obtain ⟨y0, y1, y2, y3, y4⟩ := id Y
          obtain ⟨m0, m1, m2, m3, m4⟩ := id M
          have EL : ∀ v : World, Below w.heap.size w v → v.cell? ⟨b, off + q * 2, none⟩ = some (.int .i64 fl) ∧ v.cell? ⟨b, off + q * 2 + 1, none⟩ = some (.int .i64 fh) := fun v hB => by
            obtain ⟨b', off', ha, hp⟩ := (HSv.out v hB).resolve_left (by omega)
            simp at ha
            obtain ⟨rfl, rfl⟩ := ha
            exact ⟨by rw [← HFL.out]; exact (hp.2 q hin).1, by rw [← HFH.out]; exact (hp.2 q hin).2⟩
          have EB : ∀ v : World, Below w.heap.size w v → b < v.heap.size := fun v hB => by
            obtain ⟨b', off', ha, hp⟩ := (HSv.out v hB).resolve_left (by omega)
            simp at ha
            obtain ⟨rfl, rfl⟩ := ha
            exact hp.1
          obtain ⟨c0, c1⟩ := EL _ B
          have hyj := Y.1
          go_wp2_with fail
          refine wp_region_held_drew (S := (fun w' => w'.cell? ⟨w.heap.size, 0, none⟩ = some (.int .i64 ml) ∧ w'.cell? ⟨w.heap.size, 1, none⟩ = some (.int .i64 mh) ∧ w'.cell? ⟨b, off + q * 2, none⟩ = some (.int .i64 fl) ∧ w'.cell? ⟨b, off + q * 2 + 1, none⟩ = some (.int .i64 fh))) (by kernel_rfl) ?_ (fun hHeld => ?_)
          · first | exact ⟨m1, m2, c0, c1⟩ | exact ⟨s1, s2, s3, s4⟩ | (simp (maxDischargeDepth := 6) [go_sem, *]; done)
          (replace Y := Y.drew)
          (replace X := X.drew)
          (replace M := M.drew)
          (replace R := R.drew)
          (replace B := Below.drew B)
          clear y0 y1 y2 y3 y4 m0 m1 m2 m3 m4 c0 c1
          (generalize v.drew = v at *)
          obtain ⟨y0, y1, y2, y3, y4⟩ := id Y; obtain ⟨m0, m1, m2, m3, m4⟩ := id M; obtain ⟨c0, c1⟩ := EL _ B
          refine wpAnyH_take (i := 0) (v := ?_) (by rw [List.getElem?_toArray]; rfl) (by kernel_rfl) (by kernel_rfl) (by kernel_rfl) (by intro _ _ _ h; exact h) (Or.inl ⟨by rfl, ?_⟩) (by assumption) ?_
          rotate_left
          · (intro w hSw; (try dsimp only at hSw); go_simp; all_goals with_reducible rfl)
          (try simp only [Act.put, List.setIfInBounds_toArray, List.set_cons_zero, List.set_cons_succ])
          refine wpAnyH_take (i := 1) (v := ?_) (by rw [List.getElem?_toArray]; rfl) (by kernel_rfl) (by kernel_rfl) (by kernel_rfl) (by intro _ _ _ h; exact h) (Or.inl ⟨by rfl, ?_⟩) (by assumption) ?_
          rotate_left
          · (intro w hSw; (try dsimp only at hSw); go_simp; all_goals with_reducible rfl)
          (try simp only [Act.put, List.setIfInBounds_toArray, List.set_cons_zero, List.set_cons_succ])
          refine wpAnyH_take (i := 2) (v := ?_) (by rw [List.getElem?_toArray]; rfl) (by kernel_rfl) (by kernel_rfl) (by kernel_rfl) (by intro _ _ _ h; exact h) (Or.inl ⟨by rfl, ?_⟩) (by assumption) ?_
          rotate_left
          · (intro w hSw; (try dsimp only at hSw); go_simp; all_goals with_reducible rfl)
          (try simp only [Act.put, List.setIfInBounds_toArray, List.set_cons_zero, List.set_cons_succ])
          refine wpAnyH_take (i := 3) (v := ?_) (by rw [List.getElem?_toArray]; rfl) (by kernel_rfl) (by kernel_rfl) (by kernel_rfl) (by intro _ _ _ h; exact h) (Or.inl ⟨by rfl, ?_⟩) (by assumption) ?_
          rotate_left
          · (intro w hSw; (try dsimp only at hSw); go_simp; all_goals with_reducible rfl)
          (try simp only [Act.put, List.setIfInBounds_toArray, List.set_cons_zero, List.set_cons_succ])
          refine wpAnyH_take (i := 4) (v := ?_) (by rw [List.getElem?_toArray]; rfl) (by kernel_rfl) (by kernel_rfl) (by kernel_rfl) (by intro _ _ _ h; exact h) (Or.inl ⟨by rfl, ?_⟩) (by assumption) ?_
          rotate_left
          · (intro w hSw; (try dsimp only at hSw); go_simp; all_goals with_reducible rfl)
          (try simp only [Act.put, List.setIfInBounds_toArray, List.set_cons_zero, List.set_cons_succ])
          refine wpAnyH_ready (rs := [5]) (by kernel_rfl) (by simp) ?_
          refine AllReadyH.cons (by rw [List.getElem?_toArray]; rfl) (fun K hK => ?_) AllReadyH.nil
          go_simp
          refine (CM _).mono ?_; rintro e v2 ⟨rfl, hb⟩; clear y0 y1 y2 y3 y4 m0 m1 m2 m3 m4 c0 c1; (replace Y := Y.below hb); (replace X := X.below hb); (replace M := M.below hb); (replace R := R.below hb); (replace B := B.trans (hb.mono B.size)); clear hb; obtain ⟨y0, y1, y2, y3, y4⟩ := id Y; obtain ⟨m0, m1, m2, m3, m4⟩ := id M; obtain ⟨c0, c1⟩ := EL _ B; (have s1 : ((v2.setCell ⟨jy, 0, none⟩ (.int .i64 t1)).setCell ⟨jy, 1, none⟩ (.int .i64 t2)).cell? ⟨w.heap.size, 0, none⟩ = some (.int .i64 ml) := (put2_cell v2 t1 t2 m0 (by omega)).trans m1); (have s2 : ((v2.setCell ⟨jy, 0, none⟩ (.int .i64 t1)).setCell ⟨jy, 1, none⟩ (.int .i64 t2)).cell? ⟨w.heap.size, 1, none⟩ = some (.int .i64 mh) := (put2_cell v2 t1 t2 m0 (by omega)).trans m2); (have bv := EB _ B); (have s3 : ((v2.setCell ⟨jy, 0, none⟩ (.int .i64 t1)).setCell ⟨jy, 1, none⟩ (.int .i64 t2)).cell? ⟨b, off + q * 2, none⟩ = some (.int .i64 fl) := (put2_cell v2 t1 t2 bv (by omega)).trans c0); (have s4 : ((v2.setCell ⟨jy, 0, none⟩ (.int .i64 t1)).setCell ⟨jy, 1, none⟩ (.int .i64 t2)).cell? ⟨b, off + q * 2 + 1, none⟩ = some (.int .i64 fh) := (put2_cell v2 t1 t2 bv (by omega)).trans c1)
          (try go_wp2_with fail)
          refine hK.out _ _ ?_ (fun hHeld => ?_)
          · first | exact ⟨m1, m2, c0, c1⟩ | exact ⟨s1, s2, s3, s4⟩ | (simp (maxDischargeDepth := 6) [go_sem, *]; done)
          clear hK K
          (try simp only [Act.put, List.setIfInBounds_toArray, List.set_cons_zero, List.set_cons_succ])
          refine wpAnyH_take (i := 6) (v := ?_) (by rw [List.getElem?_toArray]; rfl) (by kernel_rfl) (by kernel_rfl) (by kernel_rfl) (by intro _ _ _ h; exact h) (Or.inl ⟨by rfl, ?_⟩) (by assumption) ?_
          rotate_left
          · (intro w hSw; (try dsimp only at hSw); go_simp; all_goals with_reducible rfl)
          (try simp only [Act.put, List.setIfInBounds_toArray, List.set_cons_zero, List.set_cons_succ])
          refine wpAnyH_take (i := 7) (v := ?_) (by rw [List.getElem?_toArray]; rfl) (by kernel_rfl) (by kernel_rfl) (by kernel_rfl) (by intro _ _ _ h; exact h) (Or.inl ⟨by rfl, ?_⟩) (by assumption) ?_
          rotate_left
          · (intro w hSw; (try dsimp only at hSw); go_simp; all_goals with_reducible rfl)
          (try simp only [Act.put, List.setIfInBounds_toArray, List.set_cons_zero, List.set_cons_succ])
          refine wpAnyH_take (i := 8) (v := ?_) (by rw [List.getElem?_toArray]; rfl) (by kernel_rfl) (by kernel_rfl) (by kernel_rfl) (by intro _ _ _ h; exact h) (Or.inl ⟨by rfl, ?_⟩) (by assumption) ?_
          rotate_left
          · (intro w hSw; (try dsimp only at hSw); go_simp; all_goals with_reducible rfl)
          (try simp only [Act.put, List.setIfInBounds_toArray, List.set_cons_zero, List.set_cons_succ])
          refine wpAnyH_ready (rs := [9]) (by kernel_rfl) (by simp) ?_
          refine AllReadyH.cons (by rw [List.getElem?_toArray]; rfl) (fun K hK => ?_) AllReadyH.nil
          go_simp
          refine hK.out _ _ ?_ (fun hHeld => ?_)
          · first | exact ⟨m1, m2, c0, c1⟩ | exact ⟨s1, s2, s3, s4⟩ | (simp (maxDischargeDepth := 6) [go_sem, *]; done)
          clear hK K
          (try simp only [Act.put, List.setIfInBounds_toArray, List.set_cons_zero, List.set_cons_succ])
          refine wpAnyH_take (i := 10) (v := ?_) (by rw [List.getElem?_toArray]; rfl) (by kernel_rfl) (by kernel_rfl) (by kernel_rfl) (by intro _ _ _ h; exact h) (Or.inl ⟨by rfl, ?_⟩) (by assumption) ?_
          rotate_left
          · (intro w hSw; (try dsimp only at hSw); go_simp; all_goals with_reducible rfl)
          (try simp only [Act.put, List.setIfInBounds_toArray, List.set_cons_zero, List.set_cons_succ])
          refine wpAnyH_done (by kernel_rfl) ?_ _
          clear s1 s2 s3 s4 m0 m1 m2 m3 m4 c0 c1
          have YY : Vb ((v2.setCell ⟨jy, 0, none⟩ (.int .i64 t1)).setCell ⟨jy, 1, none⟩ (.int .i64 t2)) jy t1 t2 := Y.put t1 t2
          have XX : Vb ((v2.setCell ⟨jy, 0, none⟩ (.int .i64 t1)).setCell ⟨jy, 1, none⟩ (.int .i64 t2)) (w.heap.size + 1) x1v x2v := X.putO (by omega) t1 t2
          have MM : Vb ((v2.setCell ⟨jy, 0, none⟩ (.int .i64 t1)).setCell ⟨jy, 1, none⟩ (.int .i64 t2)) w.heap.size ml mh := M.putO (by omega) t1 t2
          have RR : Vb ((v2.setCell ⟨jy, 0, none⟩ (.int .i64 t1)).setCell ⟨jy, 1, none⟩ (.int .i64 t2)) (w.heap.size + 1 + 1) 0 0 := R.putO (by omega) t1 t2
          have BB : Below w.heap.size w ((v2.setCell ⟨jy, 0, none⟩ (.int .i64 t1)).setCell ⟨jy, 1, none⟩ (.int .i64 t2)) := Below.put2 B (by omega) t1 t2
          clear Y X M R B y0 y1 y2 y3 y4
          generalize ((v2.setCell ⟨jy, 0, none⟩ (.int .i64 t1)).setCell ⟨jy, 1, none⟩ (.int .i64 t2)) = v at *
          have Y := YY
          have X := XX
          have M := MM
          have R := RR
          have B := BB
          clear YY XX MM RR BB
          obtain ⟨y0, y1, y2, y3, y4⟩ := id Y
          obtain ⟨x0, x1, x2, x3, x4⟩ := id X
          go_wp2_with fail
          refine (CI2 _ (HSv.out _ B)).mono ?_
          rintro e v3 ⟨rfl, hb⟩
          clear x0 x1 x2 x3 x4 y0 y1 y2 y3 y4
          replace X := X.below hb
          replace M := M.below hb
          replace R := R.below hb
          replace B := B.trans (hb.mono B.size)
          clear hb
          generalize hnb : okI (CJ (j + 1)).1 (CJ (j + 1)).2 = nb at *
          generalize hn1 : sel nb (CJ (j + 1)).1 = n1 at *
          generalize hn2 : sel nb (CJ (j + 1)).2 = n2 at *
          have HNB : Hid (okI (CJ (j + 1)).1 (CJ (j + 1)).2 = nb) := hnb
          have HN1 : Hid (sel nb (CJ (j + 1)).1 = n1) := hn1
          have HN2 : Hid (sel nb (CJ (j + 1)).2 = n2) := hn2
          clear hnb hn1 hn2
          have X9 : Vb ((v3.setCell ⟨w.heap.size + 1, 0, none⟩ (.int .i64 n1)).setCell ⟨w.heap.size + 1, 1, none⟩ (.int .i64 n2)) (w.heap.size + 1) n1 n2 := X.put n1 n2
          have M9 : Vb ((v3.setCell ⟨w.heap.size + 1, 0, none⟩ (.int .i64 n1)).setCell ⟨w.heap.size + 1, 1, none⟩ (.int .i64 n2)) w.heap.size ml mh := M.putO (by omega) n1 n2
          have R9 : Vb ((v3.setCell ⟨w.heap.size + 1, 0, none⟩ (.int .i64 n1)).setCell ⟨w.heap.size + 1, 1, none⟩ (.int .i64 n2)) (w.heap.size + 1 + 1) 0 0 := R.putO (by omega) n1 n2
          have B9 : Below w.heap.size w ((v3.setCell ⟨w.heap.size + 1, 0, none⟩ (.int .i64 n1)).setCell ⟨w.heap.size + 1, 1, none⟩ (.int .i64 n2)) := Below.put2 B (Nat.le_succ _) n1 n2
          obtain ⟨x0, x1, x2, x3, x4⟩ := id X
          go_wp2_with fail
          go_roundw
          case rel => exact ⟨j + 1, hjn2, by have := HQ.out; (try simp); omega, by rw [HNB.out], by rw [HNB.out, HN1.out, HN2.out]; exact X9, M9, R9, B9⟩
          case measure => simp [intOf]; have := HQ.out; omega
      · have hjn : j = n - k - i := by omega
        have hli : ¬ ((i + j : Nat) : Int) + K ≤ (n : Int) := by rw [hKn.out]; omega
        have hdl : decide (((i + j : Nat) : Int) + K ≤ (n : Int)) = false := decide_eq_false hli
        subst hjn
        generalize hnb : okI (CJ (n - k - i)).1 (CJ (n - k - i)).2 = nb at *
        generalize hn1 : sel nb (CJ (n - k - i)).1 = n1 at *
        generalize hn2 : sel nb (CJ (n - k - i)).2 = n2 at *
        have HNB : Hid (okI (CJ (n - k - i)).1 (CJ (n - k - i)).2 = nb) := hnb
        have HN1 : Hid (sel nb (CJ (n - k - i)).1 = n1) := hn1
        have HN2 : Hid (sel nb (CJ (n - k - i)).2 = n2) := hn2
        clear hnb hn1 hn2
        obtain ⟨x0, x1, x2, x3, x4⟩ := id X
        have B9 : Below w.heap.size w ((wr.setCell ⟨w.heap.size + 1 + 1, 0, none⟩ (.int .i64 n1)).setCell ⟨w.heap.size + 1 + 1, 1, none⟩ (.int .i64 n2)) := Below.put2 B (by omega) n1 n2
        have R9 : Vb ((wr.setCell ⟨w.heap.size + 1 + 1, 0, none⟩ (.int .i64 n1)).setCell ⟨w.heap.size + 1 + 1, 1, none⟩ (.int .i64 n2)) (w.heap.size + 1 + 1) n1 n2 := R.put n1 n2
        obtain ⟨r0, r1, r2, r3, r4⟩ := R
        go_wp2_with fail
        generalize ((wr.setCell ⟨w.heap.size + 1 + 1, 0, none⟩ (.int .i64 n1)).setCell ⟨w.heap.size + 1 + 1, 1, none⟩ (.int .i64 n2)) = w9 at *
        obtain ⟨m0, m1, m2, m3, m4⟩ := R9
        exact bodyPost_ret (v := .tuple #[.agg #[.int .i64 n1, .int .i64 n2], .bool nb]) (by simp (maxDischargeDepth := 6) [results, Try.results45, go_sem, m1, m2]) rfl ⟨by rw [HNB.out, HN1.out, HN2.out], B9⟩
set_option maxRecDepth 100000 in
set_option maxHeartbeats 4000000 in
theorem chooseF (a : Option Addr) (n c : Nat) (f : Nat → Int × Int) (hn : n ≤ 12) (ho : allOk f n = true) (k i : Nat) (ml mh hl hh : Int) (w : World) (hk : (i : Int) + ((k + 1 : Nat) : Int) ≤ 9223372036854775807) (hi : i ≤ n + 1) (hg : gH (hl, hh)) (hs : Src w a n f) :
    Calls Try.prog 45 #[.slice a n c, .int .i64 (i : Int), .int .i64 ((k + 1 : Nat) : Int), .agg #[.int .i64 ml, .int .i64 mh], .bool false, .agg #[.int .i64 (sel (okI hl hh) hl), .int .i64 (sel (okI hl hh) hh)], .bool (okI hl hh)] w fun e w' => e = .returned (.tuple #[.agg #[.int .i64 (sel (okI (chs f n (k + 1) i (-1000000000000, 1000000000000) (hl, hh)).1 (chs f n (k + 1) i (-1000000000000, 1000000000000) (hl, hh)).2) (chs f n (k + 1) i (-1000000000000, 1000000000000) (hl, hh)).1), .int .i64 (sel (okI (chs f n (k + 1) i (-1000000000000, 1000000000000) (hl, hh)).1 (chs f n (k + 1) i (-1000000000000, 1000000000000) (hl, hh)).2) (chs f n (k + 1) i (-1000000000000, 1000000000000) (hl, hh)).2)], .bool (okI (chs f n (k + 1) i (-1000000000000, 1000000000000) (hl, hh)).1 (chs f n (k + 1) i (-1000000000000, 1000000000000) (hl, hh)).2)]) ∧ Below w.heap.size w w' := by
  have ih := chooseT a n c f hn ho k
  have HS : Hid (Src w a n f) := hs
  have HO : Hid (∀ q, q < n → okI (f q).1 (f q).2 = true) := allOk_at ho
  have HG : Hid (∀ j, gH (chJ f n k i (-1000000000000, 1000000000000) (hl, hh) j)) := chJ_good hg
  have HJ : Hid (∀ j, chJ f n k i (-1000000000000, 1000000000000) (hl, hh) (j + 1) = chA f n k (i + j + 1) (mt (-1000000000000, 1000000000000) (f (i + j))) (chJ f n k i (-1000000000000, 1000000000000) (hl, hh) j)) := chJ_succ f n k i (-1000000000000, 1000000000000) (hl, hh)
  have J0 := chJ_zero f n k i (-1000000000000, 1000000000000) (hl, hh)
  rw [chs_succ]
  have HI : Hid (∀ (i : Nat) (ml mh hl hh : Int) (w : World), (i : Int) + (k : Int) ≤ 9223372036854775807 → i ≤ n + 1 → okI ml mh = true → gH (hl, hh) → Src w a n f → Calls Try.prog 45 #[.slice a n c, .int .i64 (i : Int), .int .i64 (k : Int), .agg #[.int .i64 ml, .int .i64 mh], .bool true, .agg #[.int .i64 (sel (okI hl hh) hl), .int .i64 (sel (okI hl hh) hh)], .bool (okI hl hh)] w fun e w' => e = .returned (.tuple #[.agg #[.int .i64 (sel (okI (chs f n k i (ml, mh) (hl, hh)).1 (chs f n k i (ml, mh) (hl, hh)).2) (chs f n k i (ml, mh) (hl, hh)).1), .int .i64 (sel (okI (chs f n k i (ml, mh) (hl, hh)).1 (chs f n k i (ml, mh) (hl, hh)).2) (chs f n k i (ml, mh) (hl, hh)).2)], .bool (okI (chs f n k i (ml, mh) (hl, hh)).1 (chs f n k i (ml, mh) (hl, hh)).2)]) ∧ Below w.heap.size w w') := ih
  clear ih hs ho hg
  have M := ((Vb.new w ml mh 25).below (Below.al9 _ (.cells #[.int .i64 (sel (okI hl hh) hl), .int .i64 (sel (okI hl hh) hh)] 25))).below (Below.al9 _ (.cells #[.int .i64 0, .int .i64 0] 25))
  have X := (Vb.new (w.alloc (.cells #[.int .i64 ml, .int .i64 mh] 25)) (sel (okI hl hh) hl) (sel (okI hl hh) hh) 25).below (Below.al9 _ (.cells #[.int .i64 0, .int .i64 0] 25))
  have R := Vb.new ((w.alloc (.cells #[.int .i64 ml, .int .i64 mh] 25)).alloc (.cells #[.int .i64 (sel (okI hl hh) hl), .int .i64 (sel (okI hl hh) hh)] 25)) 0 0 25
  have B : Below w.heap.size w (((w.alloc (.cells #[.int .i64 ml, .int .i64 mh] 25)).alloc (.cells #[.int .i64 (sel (okI hl hh) hl), .int .i64 (sel (okI hl hh) hh)] 25)).alloc (.cells #[.int .i64 0, .int .i64 0] 25)) := by repeat (first | exact Below.refl _ _ | refine Below.drew ?_ | refine Below.alloc ?_ (by first | (simp; done) | (simp; omega) | omega) _ | refine Below.setCell ?_ (by first | (simp; done) | (simp; omega) | omega) _ | refine Below.trans ?_ (Below.mono (by assumption) (by first | (simp; done) | (simp; omega) | omega)))
  simp only [World.size_alloc] at X R
  have X0 : Vb (((w.alloc (.cells #[.int .i64 ml, .int .i64 mh] 25)).alloc (.cells #[.int .i64 (sel (okI hl hh) hl), .int .i64 (sel (okI hl hh) hh)] 25)).alloc (.cells #[.int .i64 0, .int .i64 0] 25)) (w.heap.size + 1) (sel (okI (chJ f n k i (-1000000000000, 1000000000000) (hl, hh) 0).1 (chJ f n k i (-1000000000000, 1000000000000) (hl, hh) 0).2) (chJ f n k i (-1000000000000, 1000000000000) (hl, hh) 0).1) (sel (okI (chJ f n k i (-1000000000000, 1000000000000) (hl, hh) 0).1 (chJ f n k i (-1000000000000, 1000000000000) (hl, hh) 0).2) (chJ f n k i (-1000000000000, 1000000000000) (hl, hh) 0).2) := by rw [J0]; exact X
  have F0 : Hid (Value.bool (okI hl hh) = .bool (okI (chJ f n k i (-1000000000000, 1000000000000) (hl, hh) 0).1 (chJ f n k i (-1000000000000, 1000000000000) (hl, hh) 0).2)) := by rw [Hid, J0]
  have HC : Hid (∀ q h, okI (mt (-1000000000000, 1000000000000) (f q)).1 (mt (-1000000000000, 1000000000000) (f q)).2 = true → chA f n k (q + 1) (mt (-1000000000000, 1000000000000) (f q)) h = chs f n k (q + 1) (mt (-1000000000000, 1000000000000) (f q)) h) := fun q h hq => chA_t hq
  clear J0 X
  generalize chJ f n k i (-1000000000000, 1000000000000) (hl, hh) = CJ at *
  have hKm : ((k + 1 : Nat) : Int) - 1 = (k : Int) := by omega
  have hKp : 1 ≤ ((k + 1 : Nat) : Int) := by omega
  have hKn : Hid (((k + 1 : Nat) : Int) = (k : Int) + 1) := by rw [Hid]; omega
  have hKk : (k : Int) ≤ 9223372036854775807 := by omega
  generalize ((k + 1 : Nat) : Int) = K at *
  have hne0 : (K == 0) = false := by rw [beq_eq_false_iff_ne]; omega
  generalize (sel (okI hl hh) hl) = g1 at *
  generalize (sel (okI hl hh) hh) = g2 at *
  generalize okI hl hh = g3 at *
  go_enter Try.func45, Try.ntmps45
  go_wp2_with fail
  go_loopw [6, 18] (fun fo q wr => ∃ j : Nat, j ≤ n - k - i ∧ q = .int .i64 ((i + j : Nat) : Int) ∧ fo = .bool (okI (CJ j).1 (CJ j).2) ∧ Vb wr (w.heap.size + 1) (sel (okI (CJ j).1 (CJ j).2) (CJ j).1) (sel (okI (CJ j).1 (CJ j).2) (CJ j).2) ∧ Vb wr w.heap.size ml mh ∧ Vb wr (w.heap.size + 1 + 1) 0 0 ∧ Below w.heap.size w wr) (fun _ q _ => 14 - (intOf q).toNat)
  case atStart => exact ⟨0, Nat.zero_le _, rfl, F0.out, X0, M, R, B⟩
  case round =>
    clear X0 M R B F0
    obtain ⟨j, hj, rfl, rfl, X, M, R, B⟩ := hrel
    have hub : ((i + j : Nat) : Int) + K ≤ 9223372036854775807 := by have := hKn.out; omega
    have hub2 : (i : Int) + (j : Int) + K ≤ 9223372036854775807 := by have := hKn.out; omega
    by_cases hlt : j < n - k - i
    · have hli : ((i + j : Nat) : Int) + K ≤ (n : Int) := by rw [hKn.out]; omega
      rcases HS.out.below B with h0 | ⟨b, off, rfl, hp⟩
      · omega
      have hidx : ((i + j : Nat) : Int) < (n : Int) := by omega
      have hin : i + j < n := by omega
      have hnx := HJ.out j
      have hjn2 : j + 1 ≤ n - k - i := by omega
      obtain ⟨q, hq⟩ : ∃ q, i + j = q := ⟨_, rfl⟩
      rw [hq] at hli hidx hin hnx hub
      clear hub2
      have HQ : Hid (i + j = q) := hq
      rw [hq]
      clear hq
      have c0 := (hp.2 q hin).1
      have c1 := (hp.2 q hin).2
      have hbw : b < wr.heap.size := hp.1
      have HN : Hid (CJ (j + 1) = chA f n k (q + 1) (mt (-1000000000000, 1000000000000) (f q)) (CJ j)) := hnx
      have hof := HO.out q hin
      have hgj := HG.out j
      clear hnx hp
      have HMT : Hid (mt (-1000000000000, 1000000000000) (f q) = ((f q).1, (f q).2)) := mt_all hof
      have CI : okI ((f q).1) ((f q).2) = true → ∀ v : World, Src v (some ⟨b, off, none⟩) n f → Calls Try.prog 45 #[.slice (some ⟨b, off, none⟩) n c, .int .i64 ((q : Int) + 1), .int .i64 (k : Int), .agg #[.int .i64 ((f q).1), .int .i64 ((f q).2)], .bool true, .agg #[.int .i64 (sel (okI (CJ j).1 (CJ j).2) (CJ j).1), .int .i64 (sel (okI (CJ j).1 (CJ j).2) (CJ j).2)], .bool (okI (CJ j).1 (CJ j).2)] v fun e w' => e = .returned (.tuple #[.agg #[.int .i64 (sel (okI (CJ (j + 1)).1 (CJ (j + 1)).2) (CJ (j + 1)).1), .int .i64 (sel (okI (CJ (j + 1)).1 (CJ (j + 1)).2) (CJ (j + 1)).2)], .bool (okI (CJ (j + 1)).1 (CJ (j + 1)).2)]) ∧ Below v.heap.size v w' := fun hq v hS => by
        have := HI.out (q + 1) ((f q).1) ((f q).2) (CJ j).1 (CJ j).2 v (by have := hKn.out; omega) (by omega) hq hgj hS
        rw [show (((q + 1 : Nat) : Int)) = (q : Int) + 1 by omega] at this
        rw [HN.out, HMT.out, chA_t (by exact hq)]
        exact this
      have CN : okI ((f q).1) ((f q).2) = false → CJ (j + 1) = CJ j := fun hq => by rw [HN.out, HMT.out, chA_f (by exact hq)]
      have HSv : Hid (∀ v : World, Below w.heap.size w v → Src v (some ⟨b, off, none⟩) n f) := fun v hb => HS.out.below hb
      clear HI HJ HN HMT HG HC hgj
      generalize hfl : (f q).1 = fl at *
      generalize hfh : (f q).2 = fh at *
      have HFL : Hid ((f q).1 = fl) := hfl
      have HFH : Hid ((f q).2 = fh) := hfh
      clear hfl hfh
      have CNH : Hid (okI fl fh = false → CJ (j + 1) = CJ j) := CN
      clear CN
      generalize hob : okI (CJ j).1 (CJ j).2 = ob at *
      generalize hx1 : sel ob (CJ j).1 = x1v at *
      generalize hx2 : sel ob (CJ j).2 = x2v at *
      have HOB : Hid (okI (CJ j).1 (CJ j).2 = ob) := hob
      have HX1 : Hid (sel ob (CJ j).1 = x1v) := hx1
      have HX2 : Hid (sel ob (CJ j).2 = x2v) := hx2
      clear hob hx1 hx2
      have A := Below.al9 wr (.cells #[.int .i64 fl, .int .i64 fh] 25)
      have Y := Vb.new wr fl fh 25
      have hxs := X.1
      have hrs := R.1
      replace X := X.below A
      replace M := M.below A
      replace R := R.below A
      replace B := B.trans (A.mono B.size)
      clear A
      go_upto_region 10 with fail
      clear c0 c1
      generalize hjs : wr.heap.size = jy at *
      generalize wr.alloc (.cells #[.int .i64 fl, .int .i64 fh] 25) = v at *
      clear hjs
      have CI2 := CI hof
      obtain ⟨y0, y1, y2, y3, y4⟩ := id Y
      obtain ⟨x0, x1, x2, x3, x4⟩ := id X
      go_wp2_with fail
      refine (CI2 _ (HSv.out _ B)).mono ?_
      rintro e v3 ⟨rfl, hb⟩
      clear x0 x1 x2 x3 x4 y0 y1 y2 y3 y4
      replace X := X.below hb
      replace M := M.below hb
      replace R := R.below hb
      replace B := B.trans (hb.mono B.size)
      clear hb
      generalize hnb : okI (CJ (j + 1)).1 (CJ (j + 1)).2 = nb at *
      generalize hn1 : sel nb (CJ (j + 1)).1 = n1 at *
      generalize hn2 : sel nb (CJ (j + 1)).2 = n2 at *
      have HNB : Hid (okI (CJ (j + 1)).1 (CJ (j + 1)).2 = nb) := hnb
      have HN1 : Hid (sel nb (CJ (j + 1)).1 = n1) := hn1
      have HN2 : Hid (sel nb (CJ (j + 1)).2 = n2) := hn2
      clear hnb hn1 hn2
      have X9 : Vb ((v3.setCell ⟨w.heap.size + 1, 0, none⟩ (.int .i64 n1)).setCell ⟨w.heap.size + 1, 1, none⟩ (.int .i64 n2)) (w.heap.size + 1) n1 n2 := X.put n1 n2
      have M9 : Vb ((v3.setCell ⟨w.heap.size + 1, 0, none⟩ (.int .i64 n1)).setCell ⟨w.heap.size + 1, 1, none⟩ (.int .i64 n2)) w.heap.size ml mh := M.putO (by omega) n1 n2
      have R9 : Vb ((v3.setCell ⟨w.heap.size + 1, 0, none⟩ (.int .i64 n1)).setCell ⟨w.heap.size + 1, 1, none⟩ (.int .i64 n2)) (w.heap.size + 1 + 1) 0 0 := R.putO (by omega) n1 n2
      have B9 : Below w.heap.size w ((v3.setCell ⟨w.heap.size + 1, 0, none⟩ (.int .i64 n1)).setCell ⟨w.heap.size + 1, 1, none⟩ (.int .i64 n2)) := Below.put2 B (Nat.le_succ _) n1 n2
      obtain ⟨x0, x1, x2, x3, x4⟩ := id X
      go_wp2_with fail
      go_roundw
      case rel => exact ⟨j + 1, hjn2, by have := HQ.out; (try simp); omega, by rw [HNB.out], by rw [HNB.out, HN1.out, HN2.out]; exact X9, M9, R9, B9⟩
      case measure => simp [intOf]; have := HQ.out; omega
    · have hjn : j = n - k - i := by omega
      have hli : ¬ ((i + j : Nat) : Int) + K ≤ (n : Int) := by rw [hKn.out]; omega
      have hdl : decide (((i + j : Nat) : Int) + K ≤ (n : Int)) = false := decide_eq_false hli
      subst hjn
      generalize hnb : okI (CJ (n - k - i)).1 (CJ (n - k - i)).2 = nb at *
      generalize hn1 : sel nb (CJ (n - k - i)).1 = n1 at *
      generalize hn2 : sel nb (CJ (n - k - i)).2 = n2 at *
      have HNB : Hid (okI (CJ (n - k - i)).1 (CJ (n - k - i)).2 = nb) := hnb
      have HN1 : Hid (sel nb (CJ (n - k - i)).1 = n1) := hn1
      have HN2 : Hid (sel nb (CJ (n - k - i)).2 = n2) := hn2
      clear hnb hn1 hn2
      obtain ⟨x0, x1, x2, x3, x4⟩ := id X
      have B9 : Below w.heap.size w ((wr.setCell ⟨w.heap.size + 1 + 1, 0, none⟩ (.int .i64 n1)).setCell ⟨w.heap.size + 1 + 1, 1, none⟩ (.int .i64 n2)) := Below.put2 B (by omega) n1 n2
      have R9 : Vb ((wr.setCell ⟨w.heap.size + 1 + 1, 0, none⟩ (.int .i64 n1)).setCell ⟨w.heap.size + 1 + 1, 1, none⟩ (.int .i64 n2)) (w.heap.size + 1 + 1) n1 n2 := R.put n1 n2
      obtain ⟨r0, r1, r2, r3, r4⟩ := R
      go_wp2_with fail
      generalize ((wr.setCell ⟨w.heap.size + 1 + 1, 0, none⟩ (.int .i64 n1)).setCell ⟨w.heap.size + 1 + 1, 1, none⟩ (.int .i64 n2)) = w9 at *
      obtain ⟨m0, m1, m2, m3, m4⟩ := R9
      exact bodyPost_ret (v := .tuple #[.agg #[.int .i64 n1, .int .i64 n2], .bool nb]) (by simp (maxDischargeDepth := 6) [results, Try.results45, go_sem, m1, m2]) rfl ⟨by rw [HNB.out, HN1.out, HN2.out], B9⟩
end Go.Proofs.Ytaggohibfghnmaa
