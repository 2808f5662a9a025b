/- Choices of sources; the contract of the closure that goes through them. -/
import Derived.Test.YtaggohibfghnmaaX910
import Derived.Deep.RegionHeld3
import Derived.Deep.DeepCutAuto
import Derived.RangeFuncLeaves
import Derived.WalkKit
import Derived.WalkSpells
import Derived.WalkLawsBesides
import Derived.Deep.RegionHeld
namespace Go.Proofs.Ytaggohibfghnmaa
open Go.RowKit
set_option linter.unusedVariables false
def mt (a b : Int × Int) : Int × Int := (imx a.1 b.1, imn a.2 b.2)
def jn (a b : Int × Int) : Int × Int := (imn a.1 b.1, imx a.2 b.2)
/- Choices: what all choices of k from a place on, met with what was chosen, join to. -/
def chs (f : Nat → Int × Int) (n : Nat) : Nat → Nat → Int × Int → Int × Int → Int × Int
  | 0, _, met, h => jn h met
  | k + 1, i, met, h => (List.range (n - k - i)).foldl (fun h d => if okI (mt met (f (i + d))).1 (mt met (f (i + d))).2 = true then chs f n k (i + d + 1) (mt met (f (i + d))) h else h) h
def chA (f : Nat → Int × Int) (n k i : Nat) (met h : Int × Int) : Int × Int := if okI met.1 met.2 = true then chs f n k i met h else h
def chJ (f : Nat → Int × Int) (n k i : Nat) (met h : Int × Int) (j : Nat) : Int × Int := (List.range j).foldl (fun h d => chA f n k (i + d + 1) (mt met (f (i + d))) h) h
theorem chs_zero (f : Nat → Int × Int) (n i : Nat) (met h : Int × Int) : chs f n 0 i met h = jn h met := by simp [chs]
theorem chs_succ (f : Nat → Int × Int) (n k i : Nat) (met h : Int × Int) : chs f n (k + 1) i met h = chJ f n k i met h (n - k - i) := by simp only [chs, chJ, chA]
theorem chJ_zero (f : Nat → Int × Int) (n k i : Nat) (met h : Int × Int) : chJ f n k i met h 0 = h := by simp [chJ]
theorem chJ_succ (f : Nat → Int × Int) (n k i : Nat) (met h : Int × Int) (j : Nat) : chJ f n k i met h (j + 1) = chA f n k (i + j + 1) (mt met (f (i + j))) (chJ f n k i met h j) := by
  simp only [chJ, List.range_succ, List.foldl_append, List.foldl_cons, List.foldl_nil]
theorem grown_of_below {w w' : World} (hb : Below w.heap.size w w') (k : Nat) : w.grownBy w' (some k) := ⟨hb.os, hb.tape, hb.output, hb.size, fun q hq _ => hb.block q hq⟩
theorem grown_trans {a b c : World} {k : Nat} (h1 : a.grownBy b (some k)) (h2 : b.grownBy c (some k)) : a.grownBy c (some k) :=
  ⟨h2.os.trans h1.os, h2.tape.trans h1.tape, h2.output.trans h1.output, Nat.le_trans h1.size h2.size, fun q hq hk => (h2.block q (Nat.lt_of_lt_of_le hq h1.size) hk).trans (h1.block q hq hk)⟩
theorem grown_put2 (w : World) (k : Nat) (x y : Int) : w.grownBy (put2 w k x y) (some k) :=
  ⟨rfl, rfl, rfl, by simp [put2], fun q _ hk => (Below.heap_setCell _ ⟨k, 1, none⟩ _ q (fun e => hk (by rw [e]))).trans (Below.heap_setCell _ ⟨k, 0, none⟩ _ q (fun e => hk (by rw [e])))⟩
theorem grown_cell {w w' : World} {k b o : Nat} (h : w.grownBy w' (some k)) (hb : b < w.heap.size) (hk : b ≠ k) : w'.cell? ⟨b, o, none⟩ = w.cell? ⟨b, o, none⟩ := by
  have := h.block b hb (by simpa using hk)
  simp only [World.cell?, this]
theorem grown_frozen {w w' : World} {k b o : Nat} (h : w.grownBy w' (some k)) (hb : b < w.heap.size) (hk : b ≠ k) : w'.frozen? ⟨b, o, none⟩ = w.frozen? ⟨b, o, none⟩ := by
  have := h.block b hb (by simpa using hk)
  simp only [World.frozen?, this]
theorem Vb.grown {w w' : World} {j k : Nat} {x y : Int} (h : Vb w j x y) (hg : w.grownBy w' (some k)) (hk : j ≠ k) : Vb w' j x y := by
  obtain ⟨h0, h1, h2, h3, h4⟩ := h
  exact ⟨Nat.lt_of_lt_of_le h0 hg.size, by rw [grown_cell hg h0 hk]; exact h1, by rw [grown_cell hg h0 hk]; exact h2, by rw [grown_frozen hg h0 hk]; exact h3, by rw [grown_frozen hg h0 hk]; exact h4⟩
/- What the closure reads beside the hull's box: the list's box, its own, the sources. -/
structure Env (w : World) (Bh Bl Bc : Nat) (a : Option Addr) (n c : Nat) (f : Nat → Int × Int) : Prop where
  l : Bl < w.heap.size
  bc : Bc < w.heap.size
  lh : Bl ≠ Bh
  ch : Bc ≠ Bh
  lc : w.cell? ⟨Bl, 0, none⟩ = some (.slice a n c)
  cc : w.cell? ⟨Bc, 0, none⟩ = some (.func (.func 42) #[] #[.pointer (some ⟨Bh, 0, none⟩), .pointer (some ⟨Bl, 0, none⟩), .pointer (some ⟨Bc, 0, none⟩)])
  s : n = 0 ∨ ∃ b off, a = some ⟨b, off, none⟩ ∧ b ≠ Bh ∧ Prs w b off n f
theorem Env.grown {w w' : World} {Bh Bl Bc : Nat} {a : Option Addr} {n c : Nat} {f : Nat → Int × Int} (h : Env w Bh Bl Bc a n c f) (hg : w.grownBy w' (some Bh)) : Env w' Bh Bl Bc a n c f where
  l := Nat.lt_of_lt_of_le h.l hg.size
  bc := Nat.lt_of_lt_of_le h.bc hg.size
  lh := h.lh
  ch := h.ch
  lc := by rw [grown_cell hg h.l h.lh]; exact h.lc
  cc := by rw [grown_cell hg h.bc h.ch]; exact h.cc
  s := by
    rcases h.s with h0 | ⟨b, off, ha, hb, hp⟩
    · exact .inl h0
    · exact .inr ⟨b, off, ha, hb, Nat.lt_of_lt_of_le hp.1 hg.size, fun i hi => ⟨by rw [grown_cell hg hp.1 hb]; exact (hp.2 i hi).1, by rw [grown_cell hg hp.1 hb]; exact (hp.2 i hi).2⟩⟩
theorem Env.drew {w : World} {Bh Bl Bc : Nat} {a : Option Addr} {n c : Nat} {f : Nat → Int × Int} (h : Env w Bh Bl Bc a n c f) : Env w.drew Bh Bl Bc a n c f := ⟨h.l, h.bc, h.lh, h.ch, h.lc, h.cc, h.s⟩
theorem grown_drew {a b : World} {k : Nat} (h : a.grownBy b (some k)) : a.grownBy b.drew (some k) := ⟨h.os, h.tape, h.output, h.size, h.block⟩
set_option maxRecDepth 100000 in
set_option maxHeartbeats 4000000 in
theorem choose_any (Bh Bl Bc : Nat) (a : Option Addr) (n c : Nat) (f : Nat → Int × Int) (hn : n ≤ 12) : ∀ (k i : Nat) (ml mh hl hh : Int) (w : World), (k : Int) ≤ 9223372036854775807 → i ≤ n + 1 → Vb w Bh hl hh → Env w Bh Bl Bc a n c f →
    Calls Try.prog 42 #[.int .i64 (i : Int), .int .i64 (k : Int), .agg #[.int .i64 ml, .int .i64 mh], .pointer (some ⟨Bh, 0, none⟩), .pointer (some ⟨Bl, 0, none⟩), .pointer (some ⟨Bc, 0, none⟩)] w fun e w' => (∃ v, e = .returned v) ∧ Vb w' Bh (chA f n k i (ml, mh) (hl, hh)).1 (chA f n k i (ml, mh) (hl, hh)).2 ∧ w.grownBy w' (some Bh) := by
  intro k
  induction k with
  | zero =>
    intro i ml mh hl hh w hk hi H E
    have A := Below.al9 w (.cells #[.int .i64 ml, .int .i64 mh] 25)
    have M := Vb.new w ml mh 25
    have HA := H.below A
    have GA := grown_of_below A Bh
    have hbh := H.1
    obtain ⟨m0, m1, m2, m3, m4⟩ := id M
    cases hok : okI ml mh
    · have Ev : Hid (chA f n 0 i (ml, mh) (hl, hh) = (hl, hh)) := by simp [Hid, chA, hok]
      rw [Ev.out]
      go_enter Try.func42, Try.ntmps42
      go_wp2_with fail
      refine (ok_any _ _ _).mono ?_
      rintro e w1 ⟨rfl, hb⟩
      rw [hok]
      have H1 := HA.below hb
      have G1 := grown_trans GA (grown_of_below hb Bh)
      go_wp2_with fail
      refine bodyPost_ret (results_none rfl _ _ _) rfl ?_
      exact ⟨⟨_, rfl⟩, H1, G1⟩
    · have Ev : Hid (chA f n 0 i (ml, mh) (hl, hh) = (imn hl ml, imx hh mh)) := by simp [Hid, chA, hok, chs_zero, jn]
      rw [Ev.out]
      go_enter Try.func42, Try.ntmps42
      go_wp2_with fail
      refine (ok_any _ _ _).mono ?_
      rintro e w1 ⟨rfl, hb⟩
      rw [hok]
      clear m0 m1 m2 m3 m4
      have H1 := HA.below hb
      have G1 := grown_trans GA (grown_of_below hb Bh)
      have M1 := M.below hb
      clear hb
      obtain ⟨m0, m1, m2, m3, m4⟩ := id M1
      obtain ⟨h0, h1, h2, h3, h4⟩ := id H1
      go_wp2_with fail
      refine (join_any _ _ _ _ _).mono ?_
      rintro e w2 ⟨rfl, hb⟩
      clear m0 m1 m2 m3 m4 h0 h1 h2 h3 h4
      have H2 := H1.below hb
      have G2 := grown_trans G1 (grown_of_below hb Bh)
      clear hb
      have H3 : Vb ((w2.setCell ⟨Bh, 0, none⟩ (.int .i64 (imn hl ml))).setCell ⟨Bh, 1, none⟩ (.int .i64 (imx hh mh))) Bh (imn hl ml) (imx hh mh) := H2.put (imn hl ml) (imx hh mh)
      have G3 : w.grownBy ((w2.setCell ⟨Bh, 0, none⟩ (.int .i64 (imn hl ml))).setCell ⟨Bh, 1, none⟩ (.int .i64 (imx hh mh))) (some Bh) := grown_trans G2 (grown_put2 w2 Bh (imn hl ml) (imx hh mh))
      obtain ⟨h0, h1, h2, h3, h4⟩ := id H2
      go_wp2_with fail
      refine bodyPost_ret (results_none rfl _ _ _) rfl ?_
      exact ⟨⟨_, rfl⟩, H3, G3⟩
  | succ k ih =>
    intro i ml mh hl hh w hk hi H E
    have A := Below.al9 w (.cells #[.int .i64 ml, .int .i64 mh] 25)
    have M := Vb.new w ml mh 25
    have HA := H.below A
    have GA := grown_of_below A Bh
    have EA := E.grown GA
    have hbh := H.1
    obtain ⟨m0, m1, m2, m3, m4⟩ := id M
    cases hok : okI ml mh
    · have Ev : Hid (chA f n (k + 1) i (ml, mh) (hl, hh) = (hl, hh)) := by simp [Hid, chA, hok]
      rw [Ev.out]
      go_enter Try.func42, Try.ntmps42
      go_wp2_with fail
      refine (ok_any _ _ _).mono ?_
      rintro e w1 ⟨rfl, hb⟩
      rw [hok]
      have H1 := HA.below hb
      have G1 := grown_trans GA (grown_of_below hb Bh)
      go_wp2_with fail
      refine bodyPost_ret (results_none rfl _ _ _) rfl ?_
      exact ⟨⟨_, rfl⟩, H1, G1⟩
    · have Ev : Hid (chA f n (k + 1) i (ml, mh) (hl, hh) = chJ f n k i (ml, mh) (hl, hh) (n - k - i)) := by simp [Hid, chA, hok, chs_succ]
      have J0 := chJ_zero f n k i (ml, mh) (hl, hh)
      have HJ : Hid (∀ j, chJ f n k i (ml, mh) (hl, hh) (j + 1) = chA f n k (i + j + 1) (mt (ml, mh) (f (i + j))) (chJ f n k i (ml, mh) (hl, hh) j)) := chJ_succ f n k i (ml, mh) (hl, hh)
      rw [Ev.out]
      clear Ev
      have HI : Hid (∀ (i : Nat) (ml mh hl hh : Int) (w : World), (k : Int) ≤ 9223372036854775807 → i ≤ n + 1 → Vb w Bh hl hh → Env w Bh Bl Bc a n c f → Calls Try.prog 42 #[.int .i64 (i : Int), .int .i64 (k : Int), .agg #[.int .i64 ml, .int .i64 mh], .pointer (some ⟨Bh, 0, none⟩), .pointer (some ⟨Bl, 0, none⟩), .pointer (some ⟨Bc, 0, none⟩)] w fun e w' => (∃ v, e = .returned v) ∧ Vb w' Bh (chA f n k i (ml, mh) (hl, hh)).1 (chA f n k i (ml, mh) (hl, hh)).2 ∧ w.grownBy w' (some Bh)) := ih
      clear ih
      generalize chJ f n k i (ml, mh) (hl, hh) = CJ at *
      have hKm : ((k + 1 : Nat) : Int) - 1 = (k : Int) := by omega
      have hKp : 1 ≤ ((k + 1 : Nat) : Int) := by omega
      have hKn : Hid ((n : Int) - ((k + 1 : Nat) : Int) = (n : Int) - (k : Int) - 1) := by rw [Hid]; omega
      have hKk : (k : Int) ≤ 9223372036854775807 := by omega
      generalize ((k + 1 : Nat) : Int) = K at *
      go_enter Try.func42, Try.ntmps42
      go_wp2_with fail
      refine (ok_any _ _ _).mono ?_
      rintro e w1 ⟨rfl, hb⟩
      rw [hok]
      clear m0 m1 m2 m3 m4
      have H1 := HA.below hb
      have G1 := grown_trans GA (grown_of_below hb Bh)
      have E1 := EA.grown (grown_of_below hb Bh)
      have M1 := M.below hb
      clear hb HA GA EA M A E H hok
      have H1' : Vb w1 Bh (CJ 0).1 (CJ 0).2 := by rw [J0]; exact H1
      clear H1 J0
      have hne0 : (K == 0) = false := by rw [beq_eq_false_iff_ne]; omega
      go_wp2_with fail
      go_loopw [9] (fun q wr => ∃ j : Nat, j ≤ n - k - i ∧ q = .int .i64 ((i + j : Nat) : Int) ∧ Vb wr Bh (CJ j).1 (CJ j).2 ∧ Vb wr w.heap.size ml mh ∧ Env wr Bh Bl Bc a n c f ∧ w.grownBy wr (some Bh)) (fun q _ => 14 - (intOf q).toNat)
      case atStart => exact ⟨0, Nat.zero_le _, rfl, H1', M1, E1, G1⟩
      case round =>
        obtain ⟨j, hj, rfl, H, M, E, G⟩ := hrel
        clear H1' M1 E1 G1
        have el := E.lc
        by_cases hlt : j < n - k - i
        · have hli : ((i + j : Nat) : Int) ≤ (n : Int) - K := by rw [hKn.out]; omega
          rcases E.s with h0 | ⟨b, off, rfl, hbh2, hp⟩
          · omega
          have hidx : ((i + j : Nat) : Int) < (n : Int) := by omega
          have hin : i + j < n := by omega
          have hnx := HJ.out j
          have hjn2 : j + 1 ≤ n - k - i := by omega
          obtain ⟨q, hq⟩ : ∃ q, i + j = q := ⟨_, rfl⟩
          rw [hq] at hli hidx hin hnx
          have HQ : Hid (i + j = q) := hq
          rw [hq]
          clear hq
          have EL : ∀ v : World, Env v Bh Bl Bc (some ⟨b, off, none⟩) n c f → v.cell? ⟨b, off + q * 2, none⟩ = some (.int .i64 (f q).1) ∧ v.cell? ⟨b, off + q * 2 + 1, none⟩ = some (.int .i64 (f q).2) := fun v hE => by
            rcases hE.s with h0 | ⟨b', off', ha, _, hp'⟩
            · omega
            · simp at ha
              obtain ⟨rfl, rfl⟩ := ha
              exact ⟨(hp'.2 q hin).1, (hp'.2 q hin).2⟩
          clear hp
          have HNX : Hid (CJ (j + 1) = chA f n k (q + 1) (imx ml (f q).1, imn mh (f q).2) ((CJ j).1, (CJ j).2)) := hnx
          have CI : ∀ v : World, Vb v Bh (CJ j).1 (CJ j).2 → Env v Bh Bl Bc (some ⟨b, off, none⟩) n c f → Calls Try.prog 42 #[.int .i64 ((q : Int) + 1), .int .i64 (k : Int), .agg #[.int .i64 (imx ml (f q).1), .int .i64 (imn mh (f q).2)], .pointer (some ⟨Bh, 0, none⟩), .pointer (some ⟨Bl, 0, none⟩), .pointer (some ⟨Bc, 0, none⟩)] v fun e w' => (∃ u, e = .returned u) ∧ Vb w' Bh (CJ (j + 1)).1 (CJ (j + 1)).2 ∧ v.grownBy w' (some Bh) := fun v hH hE => by
            have := HI.out (q + 1) (imx ml (f q).1) (imn mh (f q).2) (CJ j).1 (CJ j).2 v hKk (by omega) hH hE
            rw [show (((q + 1 : Nat) : Int)) = (q : Int) + 1 by omega] at this
            rw [HNX.out]
            exact this
          clear hnx HNX HI HJ
          generalize (f q).1 = fl at *
          generalize (f q).2 = fh at *
          have wq : IntKind.i64.wrap ((q : Int) + 1) = (q : Int) + 1 := wrap_in9 (by omega) (by omega)
          have wk : IntKind.i64.wrap (k : Int) = (k : Int) := wrap_in9 (by omega) (by omega)
          clear hKn
          generalize (CJ j).1 = h1 at *
          generalize (CJ j).2 = h2 at *
          have hwm : w.heap.size ≠ Bh := by omega
          go_wp2_with fail
          clear el

          (have e1 := E.cc); (have e2 := E.lc); obtain ⟨m0, m1, m2, m3, m4⟩ := id M; (have c0 := EL wr E); obtain ⟨c0, c1⟩ := c0
          refine wp_region_held_drew (S := (fun w' => w'.cell? ⟨Bc, 0, none⟩ = some (.func (.func 42) #[] #[.pointer (some ⟨Bh, 0, none⟩), .pointer (some ⟨Bl, 0, none⟩), .pointer (some ⟨Bc, 0, none⟩)]) ∧ w'.cell? ⟨Bl, 0, none⟩ = some (.slice (some ⟨b, off, none⟩) n c) ∧ w'.cell? ⟨w.heap.size, 0, none⟩ = some (.int .i64 ml) ∧ w'.cell? ⟨w.heap.size, 1, none⟩ = some (.int .i64 mh) ∧ w'.cell? ⟨b, off + q * 2, none⟩ = some (.int .i64 fl) ∧ w'.cell? ⟨b, off + q * 2 + 1, none⟩ = some (.int .i64 fh))) (by kernel_rfl) ?_ (fun hHeld => ?_)
          · first | exact ⟨e1, e2, m1, m2, c0, c1⟩ | (simp (maxDischargeDepth := 6) [go_sem, *]; done)
          (replace M := M.drew)
          (replace H := H.drew)
          (replace E := E.drew)
          (replace G := grown_drew G)
          clear e1 e2 m0 m1 m2 m3 m4 c0 c1
          (generalize wr.drew = v at *)
          (have e1 := E.cc); (have e2 := E.lc); obtain ⟨m0, m1, m2, m3, m4⟩ := id M; (have c0 := EL v E); obtain ⟨c0, c1⟩ := c0
          refine wpAnyH_take (i := 0) (v := ?_) (by rw [List.getElem?_toArray]; rfl) (by kernel_rfl) (by kernel_rfl) (by kernel_rfl) (by intro _ _ _ h; exact h) (Or.inl ⟨by rfl, ?_⟩) (by assumption) ?_
          rotate_left
          · (intro w hSw; (try dsimp only at hSw); go_simp; all_goals with_reducible rfl)
          (try simp only [Act.put, List.setIfInBounds_toArray, List.set_cons_zero, List.set_cons_succ])
          refine wpAnyH_take (i := 1) (v := ?_) (by rw [List.getElem?_toArray]; rfl) (by kernel_rfl) (by kernel_rfl) (by kernel_rfl) (by intro _ _ _ h; exact h) (Or.inl ⟨by rfl, ?_⟩) (by assumption) ?_
          rotate_left
          · (intro w hSw; (try dsimp only at hSw); go_simp; all_goals with_reducible rfl)
          (try simp only [Act.put, List.setIfInBounds_toArray, List.set_cons_zero, List.set_cons_succ])
          refine wpAnyH_take (i := 2) (v := ?_) (by rw [List.getElem?_toArray]; rfl) (by kernel_rfl) (by kernel_rfl) (by kernel_rfl) (by intro _ _ _ h; exact h) (Or.inl ⟨by rfl, ?_⟩) (by assumption) ?_
          rotate_left
          · (intro w hSw; (try dsimp only at hSw); go_simp; all_goals with_reducible rfl)
          (try simp only [Act.put, List.setIfInBounds_toArray, List.set_cons_zero, List.set_cons_succ])
          refine wpAnyH_take (i := 3) (v := ?_) (by rw [List.getElem?_toArray]; rfl) (by kernel_rfl) (by kernel_rfl) (by kernel_rfl) (by intro _ _ _ h; exact h) (Or.inl ⟨by rfl, ?_⟩) (by assumption) ?_
          rotate_left
          · (intro w hSw; (try dsimp only at hSw); go_simp; all_goals with_reducible rfl)
          (try simp only [Act.put, List.setIfInBounds_toArray, List.set_cons_zero, List.set_cons_succ])
          refine wpAnyH_take (i := 4) (v := ?_) (by rw [List.getElem?_toArray]; rfl) (by kernel_rfl) (by kernel_rfl) (by kernel_rfl) (by intro _ _ _ h; exact h) (Or.inl ⟨by rfl, ?_⟩) (by assumption) ?_
          rotate_left
          · (intro w hSw; (try dsimp only at hSw); go_simp; all_goals with_reducible rfl)
          (try simp only [Act.put, List.setIfInBounds_toArray, List.set_cons_zero, List.set_cons_succ])
          refine wpAnyH_take (i := 5) (v := ?_) (by rw [List.getElem?_toArray]; rfl) (by kernel_rfl) (by kernel_rfl) (by kernel_rfl) (by intro _ _ _ h; exact h) (Or.inl ⟨by rfl, ?_⟩) (by assumption) ?_
          rotate_left
          · (intro w hSw; (try dsimp only at hSw); go_simp; all_goals with_reducible rfl)
          (try simp only [Act.put, List.setIfInBounds_toArray, List.set_cons_zero, List.set_cons_succ])
          refine wpAnyH_take (i := 6) (v := ?_) (by rw [List.getElem?_toArray]; rfl) (by kernel_rfl) (by kernel_rfl) (by kernel_rfl) (by intro _ _ _ h; exact h) (Or.inl ⟨by rfl, ?_⟩) (by assumption) ?_
          rotate_left
          · (intro w hSw; (try dsimp only at hSw); go_simp; all_goals with_reducible rfl)
          (try simp only [Act.put, List.setIfInBounds_toArray, List.set_cons_zero, List.set_cons_succ])
          refine wpAnyH_take (i := 7) (v := ?_) (by rw [List.getElem?_toArray]; rfl) (by kernel_rfl) (by kernel_rfl) (by kernel_rfl) (by intro _ _ _ h; exact h) (Or.inl ⟨by rfl, ?_⟩) (by assumption) ?_
          rotate_left
          · (intro w hSw; (try dsimp only at hSw); go_simp; all_goals with_reducible rfl)
          (try simp only [Act.put, List.setIfInBounds_toArray, List.set_cons_zero, List.set_cons_succ])
          refine wpAnyH_take (i := 8) (v := ?_) (by rw [List.getElem?_toArray]; rfl) (by kernel_rfl) (by kernel_rfl) (by kernel_rfl) (by intro _ _ _ h; exact h) (Or.inl ⟨by rfl, ?_⟩) (by assumption) ?_
          rotate_left
          · (intro w hSw; (try dsimp only at hSw); go_simp; all_goals with_reducible rfl)
          (try simp only [Act.put, List.setIfInBounds_toArray, List.set_cons_zero, List.set_cons_succ])
          refine wpAnyH_take (i := 9) (v := ?_) (by rw [List.getElem?_toArray]; rfl) (by kernel_rfl) (by kernel_rfl) (by kernel_rfl) (by intro _ _ _ h; exact h) (Or.inl ⟨by rfl, ?_⟩) (by assumption) ?_
          rotate_left
          · (intro w hSw; (try dsimp only at hSw); go_simp; all_goals with_reducible rfl)
          (try simp only [Act.put, List.setIfInBounds_toArray, List.set_cons_zero, List.set_cons_succ])
          refine wpAnyH_ready (rs := [10]) (by kernel_rfl) (by simp) ?_
          refine AllReadyH.cons (by rw [List.getElem?_toArray]; rfl) (fun K hK => ?_) AllReadyH.nil
          go_simp
          refine (meet_any _ _ _ _ _).mono ?_; rintro e v2 ⟨rfl, hb⟩; clear e1 e2 m0 m1 m2 m3 m4 c0 c1; (replace H := H.below hb); (replace M := M.below hb); (replace E := E.grown (grown_of_below hb Bh)); (replace G := grown_trans G (grown_of_below hb Bh)); clear hb; (have e1 := E.cc); (have e2 := E.lc); obtain ⟨m0, m1, m2, m3, m4⟩ := id M; (have c0 := EL _ E); obtain ⟨c0, c1⟩ := c0
          (try go_wp2_with fail)
          refine hK.out _ _ ?_ (fun hHeld => ?_)
          · first | exact ⟨e1, e2, m1, m2, c0, c1⟩ | (simp (maxDischargeDepth := 6) [go_sem, *]; done)
          clear hK K
          (try simp only [Act.put, List.setIfInBounds_toArray, List.set_cons_zero, List.set_cons_succ])
          refine wpAnyH_ready (rs := [11]) (by kernel_rfl) (by simp) ?_
          refine AllReadyH.cons (by rw [List.getElem?_toArray]; rfl) (fun K hK => ?_) AllReadyH.nil
          go_simp
          refine (CI _ H E).mono ?_; rintro e v3 ⟨⟨u, rfl⟩, H3, hg⟩; clear e1 e2 m0 m1 m2 m3 m4 c0 c1; (replace M := M.grown hg hwm); (replace E := E.grown hg); (replace G := grown_trans G hg); clear hg H; (have H := H3); clear H3; (have e1 := E.cc); (have e2 := E.lc); obtain ⟨m0, m1, m2, m3, m4⟩ := id M; (have c0 := EL _ E); obtain ⟨c0, c1⟩ := c0
          (try go_wp2_with fail)
          refine hK.out _ _ ?_ (fun hHeld => ?_)
          · first | exact ⟨e1, e2, m1, m2, c0, c1⟩ | (simp (maxDischargeDepth := 6) [go_sem, *]; done)
          clear hK K
          (try simp only [Act.put, List.setIfInBounds_toArray, List.set_cons_zero, List.set_cons_succ])
          refine wpAnyH_done (by kernel_rfl) ?_ _
          go_wp2_with fail
          go_roundw
          case rel => exact ⟨j + 1, hjn2, by have := HQ.out; (try simp); omega, H, M, E, G⟩
          case measure => simp [intOf]; have := HQ.out; omega
        · have hjn : j = n - k - i := by omega
          have hli : ¬ ((i + j : Nat) : Int) ≤ (n : Int) - K := by rw [hKn.out]; omega
          have hdl : decide (((i + j : Nat) : Int) ≤ (n : Int) - K) = false := decide_eq_false hli
          have H2 : Vb wr Bh (CJ (n - k - i)).1 (CJ (n - k - i)).2 := by rw [← hjn]; exact H
          go_wp2_with fail
          go_end0
          exact ⟨⟨_, rfl⟩, H2, G⟩
end Go.Proofs.Ytaggohibfghnmaa
