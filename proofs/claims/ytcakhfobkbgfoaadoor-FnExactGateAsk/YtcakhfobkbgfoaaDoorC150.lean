/- GateAsk in the program: the refusal is asked for by errors.As. -/
import Derived.Test.YtcakhfobkbgfoaaDoorC148
import Derived.Test.YtcakhfobkbgfoaaDoorF143
import Derived.Test.YtcakhfobkbgfoaaDoorC147
import Derived.Deep.RegionHeld3
import Derived.Deep.DeepCutAuto
import Derived.WalkKit
import Derived.WalkSpells
import Derived.WalkLawsBesides
import Derived.Deep.RegionHeld
namespace Go.Proofs.YtcakhfobkbgfoaaDoor
open Go.RowKit
set_option linter.unusedVariables false
def EA (w : World) : Prop := EtH w ∧ EW w
theorem EA.below {w w' : World} (h : EA w) (hb : Below w.heap.size w w') : EA w' := ⟨h.1.below hb, h.2.below hb⟩
theorem EA.ew {w : World} (h : EA w) : EW w := h.2
theorem EA.em {w : World} (h : EA w) : EM w := h.2.em
theorem ga_zero {kn : Bool} {lo hi n d x s g : Int} {M : Nat → SlT} {m : Nat} {o : Int} (h : ¬ gaC kn lo hi n d x s g M m o = 0) : gaI kn lo hi n d x s g M m o = 0 ∧ gaK kn lo hi n d x s g M m o = 0 := by
  cases h1 : gaP kn lo hi n d x (plB s g M m) o
  · exact (ga_bad h1).2
  cases h2 : gaG kn lo hi n d x s g M m o
  · exact (ga_un h1 h2).2
  · exact absurd (ga_go h2).1 h
set_option maxRecDepth 100000 in
set_option maxHeartbeats 16000000 in
theorem implGateAsk_any (kn : Bool) (lo hi n d x s g : Int) (a : Option Addr) (m c : Nat) (M : Nat → SlT) (o : Int) (w : World) (E : EA w) (hm : m ≤ maxLen) (hs : SrcC w a (m * 2) (MFSlot M)) :
    Calls Tryd.prog 12 #[.agg #[.int .i64 lo, .int .i64 hi], .bool kn, .agg #[.int .i64 n, .int .i64 d], .int .i64 x, .agg #[.int .i64 s, .int .i64 g, .slice a m c], .int .i64 o] w fun e w' => e = .returned (.tuple #[.int .i64 (gaI kn lo hi n d x s g M m o), .int .i64 (gaK kn lo hi n d x s g M m o), .int .i64 (gaC kn lo hi n d x s g M m o)]) ∧ Below w.heap.size w w' := by
  have A0 := Below.nw w (.cells #[.int .i64 lo, .int .i64 hi] 25)
  have A1 := Below.nw (w.alloc (.cells #[.int .i64 lo, .int .i64 hi] 25)) (.cells #[.int .i64 n, .int .i64 d] 27)
  have A2 := Below.nw ((w.alloc (.cells #[.int .i64 lo, .int .i64 hi] 25)).alloc (.cells #[.int .i64 n, .int .i64 d] 27)) (.cells #[.int .i64 s, .int .i64 g, .slice a m c] 30)
  have P := ((Bx2.new w (.int .i64 lo) (.int .i64 hi) 25).below A1).below A2
  have D := (Bx2.new (w.alloc (.cells #[.int .i64 lo, .int .i64 hi] 25)) (.int .i64 n) (.int .i64 d) 27).below A2
  have N := Tx3.new ((w.alloc (.cells #[.int .i64 lo, .int .i64 hi] 25)).alloc (.cells #[.int .i64 n, .int .i64 d] 27)) (.int .i64 s) (.int .i64 g) (.slice a m c) 30
  have B := (A0.trans (A1.mono A0.size)).trans (A2.mono (A0.trans (A1.mono A0.size)).size)
  simp only [World.size_alloc] at D N
  clear A0 A1 A2
  have HS : Hid (SrcC w a (m * 2) (MFSlot M)) := hs
  clear hs
  have CF := fun w' => gateFor_any n d x s g a m c o w'
  have CK := fun w' E hh => gateAsk_any kn lo hi n d x s g a m c M o w' E hm hh
  have HZ : Hid (¬ gaC kn lo hi n d x s g M m o = 0 → gaI kn lo hi n d x s g M m o = 0 ∧ gaK kn lo hi n d x s g M m o = 0) := ga_zero
  generalize gaI kn lo hi n d x s g M m o = GI at *
  generalize gaK kn lo hi n d x s g M m o = GK at *
  generalize gaC kn lo hi n d x s g M m o = GC at *
  go_enter Tryd.func12, Tryd.ntmps12
  go_upto_region 1 with fail
  generalize ((w.alloc (.cells #[.int .i64 lo, .int .i64 hi] 25)).alloc (.cells #[.int .i64 n, .int .i64 d] 27)).alloc (.cells #[.int .i64 s, .int .i64 g, .slice a m c] 30) = v at *
  generalize w.heap.size + 1 + 1 = jn at *
  generalize w.heap.size + 1 = jd at *
  have SK : Hid (∀ w', Below v.heap.size v w' → (fun w' => w'.cell? ⟨w.heap.size, 0, none⟩ = some (.int .i64 lo) ∧ w'.cell? ⟨w.heap.size, 1, none⟩ = some (.int .i64 hi) ∧ w'.cell? ⟨jd, 0, none⟩ = some (.int .i64 n) ∧ w'.cell? ⟨jd, 1, none⟩ = some (.int .i64 d) ∧ w'.cell? ⟨jn, 0, none⟩ = some (.int .i64 s) ∧ w'.cell? ⟨jn, 1, none⟩ = some (.int .i64 g) ∧ w'.cell? ⟨jn, 2, none⟩ = some (.slice a m c)) w') := fun w' hw => ⟨(P.below hw).2.1, (P.below hw).2.2.1, (D.below hw).2.1, (D.below hw).2.2.1, (N.below hw).2.1, (N.below hw).2.2.1, (N.below hw).2.2.2.1⟩
  go_cut [15, 16, 17] (fun s15 s16 s17 wx => ∃ u : Value, s15 = .int .i64 GI ∧ s16 = .int .i64 GK ∧ s17 = u ∧ Av GC u ∧ Below v.heap.size v wx)
  case first => as_aux_lemma =>
    have XB : Below v.heap.size v v.drew := Below.drew (Below.refl _ _)
    obtain ⟨p0, p1, p2, p3, p4⟩ := id P
    obtain ⟨d0, d1, d2, d3, d4⟩ := id D
    obtain ⟨n0, n1, n2, n3, n4, n5, n6⟩ := id N
    generalize hvd : v.drew = vx at *
    refine wp_region_held_drew (S := (fun w' => w'.cell? ⟨w.heap.size, 0, none⟩ = some (.int .i64 lo) ∧ w'.cell? ⟨w.heap.size, 1, none⟩ = some (.int .i64 hi) ∧ w'.cell? ⟨jd, 0, none⟩ = some (.int .i64 n) ∧ w'.cell? ⟨jd, 1, none⟩ = some (.int .i64 d) ∧ w'.cell? ⟨jn, 0, none⟩ = some (.int .i64 s) ∧ w'.cell? ⟨jn, 1, none⟩ = some (.int .i64 g) ∧ w'.cell? ⟨jn, 2, none⟩ = some (.slice a m c))) (by kernel_rfl) ?_ (fun hHeld => ?_)
    · first | exact SK.out _ XB | exact SK.out _ (Below.drew (Below.refl _ _))
    refine wpAnyH_take (i := 0) (v := ?_) (by rw [List.getElem?_toArray]; rfl) (by kernel_rfl) (by kernel_rfl) (by kernel_rfl) (by intro _ _ _ h; exact h) (Or.inl ⟨by rfl, ?_⟩) (by assumption) ?_
    rotate_left
    · (intro w hSw; (try dsimp only at hSw); go_simp; all_goals with_reducible rfl)
    (try simp only [Act.put, List.setIfInBounds_toArray, List.set_cons_zero, List.set_cons_succ])
    refine wpAnyH_take (i := 1) (v := ?_) (by rw [List.getElem?_toArray]; rfl) (by kernel_rfl) (by kernel_rfl) (by kernel_rfl) (by intro _ _ _ h; exact h) (Or.inl ⟨by rfl, ?_⟩) (by assumption) ?_
    rotate_left
    · (intro w hSw; (try dsimp only at hSw); go_simp; all_goals with_reducible rfl)
    (try simp only [Act.put, List.setIfInBounds_toArray, List.set_cons_zero, List.set_cons_succ])
    refine wpAnyH_take (i := 2) (v := ?_) (by rw [List.getElem?_toArray]; rfl) (by kernel_rfl) (by kernel_rfl) (by kernel_rfl) (by intro _ _ _ h; exact h) (Or.inl ⟨by rfl, ?_⟩) (by assumption) ?_
    rotate_left
    · (intro w hSw; (try dsimp only at hSw); go_simp; all_goals with_reducible rfl)
    (try simp only [Act.put, List.setIfInBounds_toArray, List.set_cons_zero, List.set_cons_succ])
    refine wpAnyH_take (i := 3) (v := ?_) (by rw [List.getElem?_toArray]; rfl) (by kernel_rfl) (by kernel_rfl) (by kernel_rfl) (by intro _ _ _ h; exact h) (Or.inl ⟨by rfl, ?_⟩) (by assumption) ?_
    rotate_left
    · (intro w hSw; (try dsimp only at hSw); go_simp; all_goals with_reducible rfl)
    (try simp only [Act.put, List.setIfInBounds_toArray, List.set_cons_zero, List.set_cons_succ])
    refine wpAnyH_take (i := 5) (v := ?_) (by rw [List.getElem?_toArray]; rfl) (by kernel_rfl) (by kernel_rfl) (by kernel_rfl) (by intro _ _ _ h; exact h) (Or.inl ⟨by rfl, ?_⟩) (by assumption) ?_
    rotate_left
    · (intro w hSw; (try dsimp only at hSw); go_simp; all_goals with_reducible rfl)
    (try simp only [Act.put, List.setIfInBounds_toArray, List.set_cons_zero, List.set_cons_succ])
    refine wpAnyH_take (i := 6) (v := ?_) (by rw [List.getElem?_toArray]; rfl) (by kernel_rfl) (by kernel_rfl) (by kernel_rfl) (by intro _ _ _ h; exact h) (Or.inl ⟨by rfl, ?_⟩) (by assumption) ?_
    rotate_left
    · (intro w hSw; (try dsimp only at hSw); go_simp; all_goals with_reducible rfl)
    (try simp only [Act.put, List.setIfInBounds_toArray, List.set_cons_zero, List.set_cons_succ])
    refine wpAnyH_ready (rs := [4]) (by kernel_rfl) (by simp) ?_
    refine AllReadyH.cons (by rw [List.getElem?_toArray]; rfl) (fun K hK => ?_) AllReadyH.nil
    go_simp
    refine (CF vx).mono ?_; rintro ee vx2 ⟨rfl, hbl⟩; (replace XB := XB.trans (hbl.mono XB.size)); (clear hbl); (generalize hvv : vx2 = vx at *); (clear hvv)
    (try go_wp2_with fail)
    refine hK.out _ _ ?_ (fun hHeld => ?_)
    · first | exact SK.out _ XB | exact SK.out _ (Below.drew (Below.refl _ _))
    clear hK K
    (try simp only [Act.put, List.setIfInBounds_toArray, List.set_cons_zero, List.set_cons_succ])
    refine wpAnyH_ready (rs := [7]) (by kernel_rfl) (by simp) ?_
    refine AllReadyH.cons (by rw [List.getElem?_toArray]; rfl) (fun K hK => ?_) AllReadyH.nil
    go_simp
    refine (CK vx (E.ew.below (B.trans (XB.mono B.size))) (HS.out.below (B.trans (XB.mono B.size)))).mono ?_; rintro ee vx3 ⟨⟨uu, rfl, hv⟩, hbl⟩; (replace XB := XB.trans (hbl.mono XB.size)); (clear hbl)
    (try go_wp2_with fail)
    refine hK.out _ _ ?_ (fun hHeld => ?_)
    · first | exact SK.out _ XB | exact SK.out _ (Below.drew (Below.refl _ _))
    clear hK K
    (try simp only [Act.put, List.setIfInBounds_toArray, List.set_cons_zero, List.set_cons_succ])
    refine wpAnyH_take (i := 8) (v := ?_) (by rw [List.getElem?_toArray]; rfl) (by kernel_rfl) (by kernel_rfl) (by kernel_rfl) (by intro _ _ _ h; exact h) (Or.inl ⟨by rfl, ?_⟩) (by assumption) ?_
    rotate_left
    · (intro w hSw; (try dsimp only at hSw); go_simp; all_goals with_reducible rfl)
    (try simp only [Act.put, List.setIfInBounds_toArray, List.set_cons_zero, List.set_cons_succ])
    refine wpAnyH_take (i := 9) (v := ?_) (by rw [List.getElem?_toArray]; rfl) (by kernel_rfl) (by kernel_rfl) (by kernel_rfl) (by intro _ _ _ h; exact h) (Or.inl ⟨by rfl, ?_⟩) (by assumption) ?_
    rotate_left
    · (intro w hSw; (try dsimp only at hSw); go_simp; all_goals with_reducible rfl)
    (try simp only [Act.put, List.setIfInBounds_toArray, List.set_cons_zero, List.set_cons_succ])
    refine wpAnyH_take (i := 10) (v := ?_) (by rw [List.getElem?_toArray]; rfl) (by kernel_rfl) (by kernel_rfl) (by kernel_rfl) (by intro _ _ _ h; exact h) (Or.inl ⟨by rfl, ?_⟩) (by assumption) ?_
    rotate_left
    · (intro w hSw; (try dsimp only at hSw); go_simp; all_goals with_reducible rfl)
    (try simp only [Act.put, List.setIfInBounds_toArray, List.set_cons_zero, List.set_cons_succ])
    refine wpAnyH_take (i := 11) (v := ?_) (by rw [List.getElem?_toArray]; rfl) (by kernel_rfl) (by kernel_rfl) (by kernel_rfl) (by intro _ _ _ h; exact h) (Or.inl ⟨by rfl, ?_⟩) (by assumption) ?_
    rotate_left
    · (intro w hSw; (try dsimp only at hSw); go_simp; all_goals with_reducible rfl)
    (try simp only [Act.put, List.setIfInBounds_toArray, List.set_cons_zero, List.set_cons_succ])
    refine wpAnyH_take (i := 12) (v := ?_) (by rw [List.getElem?_toArray]; rfl) (by kernel_rfl) (by kernel_rfl) (by kernel_rfl) (by intro _ _ _ h; exact h) (Or.inl ⟨by rfl, ?_⟩) (by assumption) ?_
    rotate_left
    · (intro w hSw; (try dsimp only at hSw); go_simp; all_goals with_reducible rfl)
    (try simp only [Act.put, List.setIfInBounds_toArray, List.set_cons_zero, List.set_cons_succ])
    refine wpAnyH_take (i := 13) (v := ?_) (by rw [List.getElem?_toArray]; rfl) (by kernel_rfl) (by kernel_rfl) (by kernel_rfl) (by intro _ _ _ h; exact h) (Or.inl ⟨by rfl, ?_⟩) (by assumption) ?_
    rotate_left
    · (intro w hSw; (try dsimp only at hSw); go_simp; all_goals with_reducible rfl)
    (try simp only [Act.put, List.setIfInBounds_toArray, List.set_cons_zero, List.set_cons_succ])
    refine wpAnyH_take (i := 14) (v := ?_) (by rw [List.getElem?_toArray]; rfl) (by kernel_rfl) (by kernel_rfl) (by kernel_rfl) (by intro _ _ _ h; exact h) (Or.inl ⟨by rfl, ?_⟩) (by assumption) ?_
    rotate_left
    · (intro w hSw; (try dsimp only at hSw); go_simp; all_goals with_reducible rfl)
    (try simp only [Act.put, List.setIfInBounds_toArray, List.set_cons_zero, List.set_cons_succ])
    refine wpAnyH_done (by kernel_rfl) ?_ _
    go_wp2_with fail
    go_meet
    case rel => exact ⟨uu, rfl, rfl, rfl, hv, XB⟩
  case rest =>
    obtain ⟨u, rfl, rfl, rfl, hv, XB⟩ := hcut
    replace B := B.trans (XB.mono B.size)
    clear SK XB CF CK P D N
    generalize wc = v1 at *
    have NL := Below.nw v1 (.cells #[.int .i64 0, .nilIface] 92)
    have R := Bx2.new v1 (.int .i64 0) .nilIface 92
    have HJ : w.heap.size ≤ v1.heap.size := B.size
    go_upto_region 3 with fail
    replace B := B.trans (NL.mono B.size)
    clear NL
    generalize v1.alloc (.cells #[.int .i64 0, .nilIface] 92) = v2 at *
    generalize v1.heap.size = jr at *
    rcases hv with ⟨rfl, rfl⟩ | ⟨q2, a1, rfl⟩
    · go_wp2_with fail
      refine (as_nil _ _).mono ?_
      rintro e w' ⟨rfl, rfl⟩
      go_wp2_with fail
      exact bodyPost_ret (v := (.tuple #[.int .i64 GI, .int .i64 GK, .int .i64 0])) (by simp (maxDischargeDepth := 6) [results, Tryd.results12, go_sem, *]) rfl ⟨rfl, B⟩
    · obtain ⟨z1, z2⟩ := HZ.out q2
      subst z1 z2
      clear HZ
      go_wp2_with fail
      refine (as_at GC a1 jr _ _ _ (E.1.below B) R.2.1 R.2.2.1 R.2.2.2.1 R.2.2.2.2).mono ?_
      rintro e v3 ⟨rfl, c0, hb⟩
      replace B := B.trans (hb.below HJ B.size)
      clear hb
      go_wp2_with fail
      go_quiet (fail)
      go_wp2_with fail
      exact bodyPost_ret (v := (.tuple #[.int .i64 0, .int .i64 0, .int .i64 GC])) (by simp (maxDischargeDepth := 6) [results, Tryd.results12, go_sem, *]) rfl ⟨rfl, below_dq B nq⟩
end Go.Proofs.YtcakhfobkbgfoaaDoor
