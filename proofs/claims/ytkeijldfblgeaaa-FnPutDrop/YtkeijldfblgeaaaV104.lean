/- A list, a node, an interval and a count are drawn. -/
import Derived.Test.YtkeijldfblgeaaaV103
import Derived.Test.YtkeijldfblgeaaaD4
import Derived.Deep.RegionHeld3
import Derived.WalkKit
import Derived.WalkSpells
import Derived.WalkLawsBesides
import Derived.Deep.RegionHeld
namespace Go.Proofs.Ytkeijldfblgeaaa
open Go.RowKit
set_option linter.unusedVariables false
theorem two_but (w : World) (j : Nat) (a b : Value) : But j w ((w.setCell ⟨j, 0, none⟩ a).setCell ⟨j, 1, none⟩ b) := ((But.refl j w).setCell 0 a).setCell 1 b
theorem CodeB.up {w : World} {B B' : Nat} {a : Option Addr} {n : Nat} (h : CodeB w B a n) (hb : B ≤ B') : CodeB w B' a n := by
  rcases h with h | ⟨b, off, h1, h2, h3⟩
  · exact .inl h
  · exact .inr ⟨b, off, h1, by omega, h3⟩
/- The state of the draw: the list beside the cursor, the two boxes. -/
def Ds (w w1 : World) (B p : Nat) (v : Value) (L : List PT) (bn : Nat) (lo hi : Int) (wr : World) : Prop := Pw w1 B p v L wr ∧ Bx2 wr w.heap.size (.int .i64 0) (.int .i64 0) ∧ Bx2 wr bn (.int .i64 lo) (.int .i64 hi) ∧ w.heap.size < p ∧ p < bn ∧ w.heap.size ≤ w1.heap.size ∧ Below w.heap.size w wr
theorem Ds.call {w w1 : World} {B p : Nat} {v : Value} {L : List PT} {bn : Nat} {lo hi : Int} {wr wr' : World} (h : Ds w w1 B p v L bn lo hi wr) (hc : CurOk wr' B p) (hb : But p wr wr') : Ds w w1 B p v L bn lo hi wr' := by
  obtain ⟨h1, h2, h3, h4, h5, h6, h7⟩ := h
  exact ⟨h1.call hc hb, h2.but hb (by omega), h3.but hb (by omega), h4, h5, h6, h7.trans (hb.below (by omega) h7.size)⟩
theorem Ds.drew {w w1 : World} {B p : Nat} {v : Value} {L : List PT} {bn : Nat} {lo hi : Int} {wr : World} (h : Ds w w1 B p v L bn lo hi wr) : Ds w w1 B p v L bn lo hi wr.drew := by
  obtain ⟨⟨a1, a2, a3, a4⟩, h2, h3, h4, h5, h6, h7⟩ := h
  exact ⟨⟨a1, a2, ⟨a3.1, a3.2.1, a3.2.2.1, a3.2.2.2.1, a3.2.2.2.2⟩, a4⟩, h2, h3, h4, h5, h6, Below.drew h7⟩
theorem wrap_nd {u z : Int} (h1 : 0 ≤ u) (h2 : u < 9) (h3 : 0 ≤ z) (h4 : z < 20) : IntKind.i64.wrap (u - IntKind.i64.wrap (Int.tdiv z 19)) = u - Int.tdiv z 19 := by
  rw [Int.tdiv_eq_ediv_of_nonneg h3]
  rw [Go.IntWalk.i64_in (z / 19) ⟨by omega, by omega⟩]
  exact Go.IntWalk.i64_in _ ⟨by omega, by omega⟩
theorem wf_nd {u z : Int} (h1 : 0 ≤ u) (h2 : u < 9) (h3 : 0 ≤ z) (h4 : z < 20) : (Lit.int .i64 (u - Int.tdiv z 19)).wf = true := by
  rw [Int.tdiv_eq_ediv_of_nonneg h3]
  simp only [Lit.wf, Bool.and_eq_true, decide_eq_true_eq]
  exact ⟨by show (-9223372036854775808 : Int) ≤ _; omega, by show _ ≤ (9223372036854775807 : Int); omega⟩
set_option maxRecDepth 100000 in
set_option maxHeartbeats 8000000 in
theorem DrawPeerPut_any (a : Option Addr) (n c : Nat) (w : World) (hn : n ≤ 1048576) (hcode : CodeB w w.heap.size a n) :
    Calls Try.prog 15 #[.slice a n c] w fun e w' => ∃ (v : Value) (L : List PT) (x lo hi y : Int), e = .returned (.tuple #[v, .int .i64 x, .agg #[.int .i64 lo, .int .i64 hi], .int .i64 y]) ∧ w'.ownsRow w.heap.size 51 5 v L.length (prow L) ∧ L.length ≤ 9 ∧ (Lit.int .i64 x).wf = true ∧ Below w.heap.size w w' := by
  have A0 := Below.nw w (.cells #[.int .i64 0, .int .i64 0] 38)
  have R := Bx2.new w (.int .i64 0) (.int .i64 0) 38
  have hs0 : (w.alloc (.cells #[.int .i64 0, .int .i64 0] 38)).heap.size = w.heap.size + 1 := by simp
  have HC := (hcode.below A0).up (show w.heap.size ≤ (w.alloc (.cells #[.int .i64 0, .int .i64 0] 38)).heap.size by omega)
  clear hcode
  go_enter Try.func15, Try.ntmps15
  go_upto_region 1 with fail
  generalize w.alloc (.cells #[.int .i64 0, .int .i64 0] 38) = w0 at *
  go_wp2_with fail
  refine (l1New_any a n c _ hn HC).mono ?_
  rintro e w1 ⟨p, rfl, hcur, hb⟩
  have hpl := hcur.lt
  replace R := R.below hb
  replace A0 := A0.trans (hb.mono A0.size)
  clear hb HC
  go_wp2_with fail
  refine (l10DrawAny_any w0.heap.size p _ hcur).mono ?_
  rintro e w2 ⟨v, L, rfl, ST, hL⟩
  have hB1 : w.heap.size ≤ w1.heap.size := A0.size
  replace R := R.but ST.2.2.1 (by omega)
  replace A0 := A0.trans (ST.2.2.1.below (B := w.heap.size) (by omega) A0.size)
  obtain ⟨av, cv, rfl, _, _, _⟩ := ownF_src ST.2.1
  clear hcur
  go_wp2_with fail
  refine (l1DrawIval_any w0.heap.size p _ ST.1).mono ?_
  rintro e w3 ⟨lo, hi, rfl, hc, hb⟩
  replace ST := ST.call hc hb
  replace R := R.but hb (by omega)
  replace A0 := A0.trans (hb.below (B := w.heap.size) (by omega) A0.size)
  clear hc hb
  have A3 := Below.nw w3 (.cells #[.int .i64 lo, .int .i64 hi] 38)
  have DS : Ds w w1 w0.heap.size p (.slice av L.length cv) L w3.heap.size lo hi (w3.alloc (.cells #[.int .i64 lo, .int .i64 hi] 38)) := ⟨ST.below A3, R.below A3, Bx2.new w3 (.int .i64 lo) (.int .i64 hi) 38, by omega, ST.1.lt.1, hB1, A0.trans (A3.mono A0.size)⟩
  clear ST R A0 A3
  go_upto_region 4 with fail
  generalize w3.heap.size = bn at *
  generalize w3.alloc (.cells #[.int .i64 lo, .int .i64 hi] 38) = w4 at *
  go_wp2_with fail
  refine (l1Below_any w0.heap.size p 90 _ DS.1.1).mono ?_
  rintro e w5 ⟨y0, rfl, _, _, _, _, hc, hb⟩
  replace DS := DS.call hc hb
  clear hc hb
  go_wp2_with fail
  refine (l1Once_any w0.heap.size p 15 _ DS.1.1).mono ?_
  rintro e w6 ⟨z, rfl, hc, hb⟩
  replace DS := DS.call hc hb
  clear hc hb
  cases z
  · skip
    obtain ⟨n0, n1, n2, n3, n4⟩ := DS.2.2.1
    go_upto_region 7 with fail
    refine wp_region_held_drew (S := (fun w' => w'.cell? ⟨bn, 0, none⟩ = some (.int .i64 lo) ∧ w'.cell? ⟨bn, 1, none⟩ = some (.int .i64 hi))) (by kernel_rfl) ?_ (fun hHeld => ?_)
    · first | exact ⟨n1, n2⟩ | (simp (maxDischargeDepth := 6) [go_sem, *]; done)
    clear n0 n1 n2 n3 n4
    replace DS := DS.drew
    generalize w6.drew = w8 at *
    obtain ⟨n0, n1, n2, n3, n4⟩ := DS.2.2.1
    refine wpAnyH_take (i := 0) (v := ?_) (by rw [List.getElem?_toArray]; rfl) (by kernel_rfl) (by kernel_rfl) (by kernel_rfl) (by intro _ _ _ h; exact h) (Or.inl ⟨by rfl, ?_⟩) (by assumption) ?_
    rotate_left
    · (intro w hSw; (try dsimp only at hSw); go_simp; all_goals with_reducible rfl)
    (try simp only [Act.put, List.setIfInBounds_toArray, List.set_cons_zero, List.set_cons_succ])
    refine wpAnyH_take (i := 1) (v := ?_) (by rw [List.getElem?_toArray]; rfl) (by kernel_rfl) (by kernel_rfl) (by kernel_rfl) (by intro _ _ _ h; exact h) (Or.inl ⟨by rfl, ?_⟩) (by assumption) ?_
    rotate_left
    · (intro w hSw; (try dsimp only at hSw); go_simp; all_goals with_reducible rfl)
    (try simp only [Act.put, List.setIfInBounds_toArray, List.set_cons_zero, List.set_cons_succ])
    refine wpAnyH_take (i := 3) (v := ?_) (by rw [List.getElem?_toArray]; rfl) (by kernel_rfl) (by kernel_rfl) (by kernel_rfl) (by intro _ _ _ h; exact h) (Or.inl ⟨by rfl, ?_⟩) (by assumption) ?_
    rotate_left
    · (intro w hSw; (try dsimp only at hSw); go_simp; all_goals with_reducible rfl)
    (try simp only [Act.put, List.setIfInBounds_toArray, List.set_cons_zero, List.set_cons_succ])
    refine wpAnyH_take (i := 7) (v := ?_) (by rw [List.getElem?_toArray]; rfl) (by kernel_rfl) (by kernel_rfl) (by kernel_rfl) (by intro _ _ _ h; exact h) (Or.inl ⟨by rfl, ?_⟩) (by assumption) ?_
    rotate_left
    · (intro w hSw; (try dsimp only at hSw); go_simp; all_goals with_reducible rfl)
    (try simp only [Act.put, List.setIfInBounds_toArray, List.set_cons_zero, List.set_cons_succ])
    refine wpAnyH_take (i := 8) (v := ?_) (by rw [List.getElem?_toArray]; rfl) (by kernel_rfl) (by kernel_rfl) (by kernel_rfl) (by intro _ _ _ h; exact h) (Or.inl ⟨by rfl, ?_⟩) (by assumption) ?_
    rotate_left
    · (intro w hSw; (try dsimp only at hSw); go_simp; all_goals with_reducible rfl)
    (try simp only [Act.put, List.setIfInBounds_toArray, List.set_cons_zero, List.set_cons_succ])
    refine wpAnyH_ready (rs := [2]) (by kernel_rfl) (by simp) ?_
    refine AllReadyH.cons (by rw [List.getElem?_toArray]; rfl) (fun K hK => ?_) AllReadyH.nil
    go_simp
    refine (l1Below_any w0.heap.size p 9 _ DS.1.1).mono ?_; rintro e v1 ⟨u, rfl, u0, _, u2, _, hc, hb⟩; (have u3 := u2 (by omega)); clear u2; clear n0 n1 n2 n3 n4; (replace DS := DS.call hc hb); clear hc hb; obtain ⟨n0, n1, n2, n3, n4⟩ := DS.2.2.1
    (try go_wp2_with fail)
    refine hK.out _ _ ?_ (fun hHeld => ?_)
    · first | exact ⟨n1, n2⟩ | (simp (maxDischargeDepth := 6) [go_sem, *]; done)
    clear hK K
    (try simp only [Act.put, List.setIfInBounds_toArray, List.set_cons_zero, List.set_cons_succ])
    refine wpAnyH_ready (rs := [4]) (by kernel_rfl) (by simp) ?_
    refine AllReadyH.cons (by rw [List.getElem?_toArray]; rfl) (fun K hK => ?_) AllReadyH.nil
    go_simp
    refine (l1Below_any w0.heap.size p 20 _ DS.1.1).mono ?_; rintro e v2 ⟨q, rfl, q0, _, q2, _, hc, hb⟩; (have q3 := q2 (by omega)); clear q2; clear n0 n1 n2 n3 n4; (replace DS := DS.call hc hb); clear hc hb; obtain ⟨n0, n1, n2, n3, n4⟩ := DS.2.2.1; obtain ⟨r0, r1, r2, r3, r4⟩ := DS.2.1; (have hbn : w.heap.size ≠ bn := by have := DS.2.2.2.1; have := DS.2.2.2.2.1; omega); have hbn' := Ne.symm hbn
    (try go_wp2_with fail)
    refine hK.out _ _ ?_ (fun hHeld => ?_)
    · first | exact ⟨n1, n2⟩ | (simp (maxDischargeDepth := 6) [go_sem, *]; done)
    clear hK K
    (try simp only [Act.put, List.setIfInBounds_toArray, List.set_cons_zero, List.set_cons_succ])
    refine wpAnyH_take (i := 5) (v := ?_) (by rw [List.getElem?_toArray]; rfl) (by kernel_rfl) (by kernel_rfl) (by kernel_rfl) (by intro _ _ _ h; exact h) (Or.inl ⟨by rfl, ?_⟩) (by assumption) ?_
    rotate_left
    · (intro w hSw; (try dsimp only at hSw); go_simp; all_goals with_reducible rfl)
    (try simp only [Act.put, List.setIfInBounds_toArray, List.set_cons_zero, List.set_cons_succ])
    refine wpAnyH_take (i := 6) (v := ?_) (by rw [List.getElem?_toArray]; rfl) (by kernel_rfl) (by kernel_rfl) (by kernel_rfl) (by intro _ _ _ h; exact h) (Or.inl ⟨by rfl, ?_⟩) (by assumption) ?_
    rotate_left
    · (intro w hSw; (try dsimp only at hSw); go_simp; all_goals with_reducible rfl)
    (try simp only [Act.put, List.setIfInBounds_toArray, List.set_cons_zero, List.set_cons_succ])
    refine wpAnyH_take (i := 9) (v := ?_) (by rw [List.getElem?_toArray]; rfl) (by kernel_rfl) (by kernel_rfl) (by kernel_rfl) (by intro _ _ _ h; exact h) (Or.inl ⟨by rfl, ?_⟩) (by assumption) ?_
    rotate_left
    · (intro w hSw; (try dsimp only at hSw); go_simp; all_goals with_reducible rfl)
    (try simp only [Act.put, List.setIfInBounds_toArray, List.set_cons_zero, List.set_cons_succ])
    refine wpAnyH_take (i := 10) (v := ?_) (by rw [List.getElem?_toArray]; rfl) (by kernel_rfl) (by kernel_rfl) (by kernel_rfl) (by intro _ _ _ h; exact h) (Or.inl ⟨by rfl, ?_⟩) (by assumption) ?_
    rotate_left
    · (intro w hSw; (try dsimp only at hSw); go_simp; all_goals with_reducible rfl)
    (try simp only [Act.put, List.setIfInBounds_toArray, List.set_cons_zero, List.set_cons_succ])
    refine wpAnyH_ready (rs := [11]) (by kernel_rfl) (by simp) ?_
    refine AllReadyH.cons (by rw [List.getElem?_toArray]; rfl) (fun K hK => ?_) AllReadyH.nil
    go_simp
    refine hK.out _ _ ?_ (fun hHeld => ?_)
    · first | exact ⟨n1, n2⟩ | (simp (maxDischargeDepth := 6) [go_sem, *]; done)
    clear hK K
    (try simp only [Act.put, List.setIfInBounds_toArray, List.set_cons_zero, List.set_cons_succ])
    refine wpAnyH_take (i := 12) (v := ?_) (by rw [List.getElem?_toArray]; rfl) (by kernel_rfl) (by kernel_rfl) (by kernel_rfl) (by intro _ _ _ h; exact h) (Or.inl ⟨by rfl, ?_⟩) (by assumption) ?_
    rotate_left
    · (intro w hSw; (try dsimp only at hSw); go_simp; all_goals with_reducible rfl)
    (try simp only [Act.put, List.setIfInBounds_toArray, List.set_cons_zero, List.set_cons_succ])
    refine wpAnyH_done (by kernel_rfl) ?_ _
    have hO := DS.1.2.1
    have hwf := wf_nd u0 u3 q0 q3
    have hwr := wrap_nd u0 u3 q0 q3
    have hb1 := DS.2.2.2.2.2.1
    have hBB := DS.2.2.2.2.2.2
    go_wp2_with fail
    exact bodyPost_ret (v := (.tuple #[.slice av L.length cv, .int .i64 (u - Int.tdiv q 19), .agg #[.int .i64 lo, .int .i64 hi], .int .i64 y0])) (by simp (maxDischargeDepth := 6) [results, Try.results15, go_sem, *]) rfl ⟨_, L, _, lo, hi, _, rfl, own_base (own_butK hO (two_but _ _ _ _) (by omega)) hb1, by omega, hwf, hBB.trans ((two_but _ _ _ _).below (Nat.le_refl _) hBB.size)⟩
  · go_wp2_with fail
    refine (l2DrawCount_any w0.heap.size p _ DS.1.1).mono ?_
    rintro e w7 ⟨y1, rfl, hc, hb⟩
    replace DS := DS.call hc hb
    clear hc hb
    obtain ⟨n0, n1, n2, n3, n4⟩ := DS.2.2.1
    go_upto_region 7 with fail
    refine wp_region_held_drew (S := (fun w' => w'.cell? ⟨bn, 0, none⟩ = some (.int .i64 lo) ∧ w'.cell? ⟨bn, 1, none⟩ = some (.int .i64 hi))) (by kernel_rfl) ?_ (fun hHeld => ?_)
    · first | exact ⟨n1, n2⟩ | (simp (maxDischargeDepth := 6) [go_sem, *]; done)
    clear n0 n1 n2 n3 n4
    replace DS := DS.drew
    generalize w7.drew = w8 at *
    obtain ⟨n0, n1, n2, n3, n4⟩ := DS.2.2.1
    refine wpAnyH_take (i := 0) (v := ?_) (by rw [List.getElem?_toArray]; rfl) (by kernel_rfl) (by kernel_rfl) (by kernel_rfl) (by intro _ _ _ h; exact h) (Or.inl ⟨by rfl, ?_⟩) (by assumption) ?_
    rotate_left
    · (intro w hSw; (try dsimp only at hSw); go_simp; all_goals with_reducible rfl)
    (try simp only [Act.put, List.setIfInBounds_toArray, List.set_cons_zero, List.set_cons_succ])
    refine wpAnyH_take (i := 1) (v := ?_) (by rw [List.getElem?_toArray]; rfl) (by kernel_rfl) (by kernel_rfl) (by kernel_rfl) (by intro _ _ _ h; exact h) (Or.inl ⟨by rfl, ?_⟩) (by assumption) ?_
    rotate_left
    · (intro w hSw; (try dsimp only at hSw); go_simp; all_goals with_reducible rfl)
    (try simp only [Act.put, List.setIfInBounds_toArray, List.set_cons_zero, List.set_cons_succ])
    refine wpAnyH_take (i := 3) (v := ?_) (by rw [List.getElem?_toArray]; rfl) (by kernel_rfl) (by kernel_rfl) (by kernel_rfl) (by intro _ _ _ h; exact h) (Or.inl ⟨by rfl, ?_⟩) (by assumption) ?_
    rotate_left
    · (intro w hSw; (try dsimp only at hSw); go_simp; all_goals with_reducible rfl)
    (try simp only [Act.put, List.setIfInBounds_toArray, List.set_cons_zero, List.set_cons_succ])
    refine wpAnyH_take (i := 7) (v := ?_) (by rw [List.getElem?_toArray]; rfl) (by kernel_rfl) (by kernel_rfl) (by kernel_rfl) (by intro _ _ _ h; exact h) (Or.inl ⟨by rfl, ?_⟩) (by assumption) ?_
    rotate_left
    · (intro w hSw; (try dsimp only at hSw); go_simp; all_goals with_reducible rfl)
    (try simp only [Act.put, List.setIfInBounds_toArray, List.set_cons_zero, List.set_cons_succ])
    refine wpAnyH_take (i := 8) (v := ?_) (by rw [List.getElem?_toArray]; rfl) (by kernel_rfl) (by kernel_rfl) (by kernel_rfl) (by intro _ _ _ h; exact h) (Or.inl ⟨by rfl, ?_⟩) (by assumption) ?_
    rotate_left
    · (intro w hSw; (try dsimp only at hSw); go_simp; all_goals with_reducible rfl)
    (try simp only [Act.put, List.setIfInBounds_toArray, List.set_cons_zero, List.set_cons_succ])
    refine wpAnyH_ready (rs := [2]) (by kernel_rfl) (by simp) ?_
    refine AllReadyH.cons (by rw [List.getElem?_toArray]; rfl) (fun K hK => ?_) AllReadyH.nil
    go_simp
    refine (l1Below_any w0.heap.size p 9 _ DS.1.1).mono ?_; rintro e v1 ⟨u, rfl, u0, _, u2, _, hc, hb⟩; (have u3 := u2 (by omega)); clear u2; clear n0 n1 n2 n3 n4; (replace DS := DS.call hc hb); clear hc hb; obtain ⟨n0, n1, n2, n3, n4⟩ := DS.2.2.1
    (try go_wp2_with fail)
    refine hK.out _ _ ?_ (fun hHeld => ?_)
    · first | exact ⟨n1, n2⟩ | (simp (maxDischargeDepth := 6) [go_sem, *]; done)
    clear hK K
    (try simp only [Act.put, List.setIfInBounds_toArray, List.set_cons_zero, List.set_cons_succ])
    refine wpAnyH_ready (rs := [4]) (by kernel_rfl) (by simp) ?_
    refine AllReadyH.cons (by rw [List.getElem?_toArray]; rfl) (fun K hK => ?_) AllReadyH.nil
    go_simp
    refine (l1Below_any w0.heap.size p 20 _ DS.1.1).mono ?_; rintro e v2 ⟨q, rfl, q0, _, q2, _, hc, hb⟩; (have q3 := q2 (by omega)); clear q2; clear n0 n1 n2 n3 n4; (replace DS := DS.call hc hb); clear hc hb; obtain ⟨n0, n1, n2, n3, n4⟩ := DS.2.2.1; obtain ⟨r0, r1, r2, r3, r4⟩ := DS.2.1; (have hbn : w.heap.size ≠ bn := by have := DS.2.2.2.1; have := DS.2.2.2.2.1; omega); have hbn' := Ne.symm hbn
    (try go_wp2_with fail)
    refine hK.out _ _ ?_ (fun hHeld => ?_)
    · first | exact ⟨n1, n2⟩ | (simp (maxDischargeDepth := 6) [go_sem, *]; done)
    clear hK K
    (try simp only [Act.put, List.setIfInBounds_toArray, List.set_cons_zero, List.set_cons_succ])
    refine wpAnyH_take (i := 5) (v := ?_) (by rw [List.getElem?_toArray]; rfl) (by kernel_rfl) (by kernel_rfl) (by kernel_rfl) (by intro _ _ _ h; exact h) (Or.inl ⟨by rfl, ?_⟩) (by assumption) ?_
    rotate_left
    · (intro w hSw; (try dsimp only at hSw); go_simp; all_goals with_reducible rfl)
    (try simp only [Act.put, List.setIfInBounds_toArray, List.set_cons_zero, List.set_cons_succ])
    refine wpAnyH_take (i := 6) (v := ?_) (by rw [List.getElem?_toArray]; rfl) (by kernel_rfl) (by kernel_rfl) (by kernel_rfl) (by intro _ _ _ h; exact h) (Or.inl ⟨by rfl, ?_⟩) (by assumption) ?_
    rotate_left
    · (intro w hSw; (try dsimp only at hSw); go_simp; all_goals with_reducible rfl)
    (try simp only [Act.put, List.setIfInBounds_toArray, List.set_cons_zero, List.set_cons_succ])
    refine wpAnyH_take (i := 9) (v := ?_) (by rw [List.getElem?_toArray]; rfl) (by kernel_rfl) (by kernel_rfl) (by kernel_rfl) (by intro _ _ _ h; exact h) (Or.inl ⟨by rfl, ?_⟩) (by assumption) ?_
    rotate_left
    · (intro w hSw; (try dsimp only at hSw); go_simp; all_goals with_reducible rfl)
    (try simp only [Act.put, List.setIfInBounds_toArray, List.set_cons_zero, List.set_cons_succ])
    refine wpAnyH_take (i := 10) (v := ?_) (by rw [List.getElem?_toArray]; rfl) (by kernel_rfl) (by kernel_rfl) (by kernel_rfl) (by intro _ _ _ h; exact h) (Or.inl ⟨by rfl, ?_⟩) (by assumption) ?_
    rotate_left
    · (intro w hSw; (try dsimp only at hSw); go_simp; all_goals with_reducible rfl)
    (try simp only [Act.put, List.setIfInBounds_toArray, List.set_cons_zero, List.set_cons_succ])
    refine wpAnyH_ready (rs := [11]) (by kernel_rfl) (by simp) ?_
    refine AllReadyH.cons (by rw [List.getElem?_toArray]; rfl) (fun K hK => ?_) AllReadyH.nil
    go_simp
    refine hK.out _ _ ?_ (fun hHeld => ?_)
    · first | exact ⟨n1, n2⟩ | (simp (maxDischargeDepth := 6) [go_sem, *]; done)
    clear hK K
    (try simp only [Act.put, List.setIfInBounds_toArray, List.set_cons_zero, List.set_cons_succ])
    refine wpAnyH_take (i := 12) (v := ?_) (by rw [List.getElem?_toArray]; rfl) (by kernel_rfl) (by kernel_rfl) (by kernel_rfl) (by intro _ _ _ h; exact h) (Or.inl ⟨by rfl, ?_⟩) (by assumption) ?_
    rotate_left
    · (intro w hSw; (try dsimp only at hSw); go_simp; all_goals with_reducible rfl)
    (try simp only [Act.put, List.setIfInBounds_toArray, List.set_cons_zero, List.set_cons_succ])
    refine wpAnyH_done (by kernel_rfl) ?_ _
    have hO := DS.1.2.1
    have hwf := wf_nd u0 u3 q0 q3
    have hwr := wrap_nd u0 u3 q0 q3
    have hb1 := DS.2.2.2.2.2.1
    have hBB := DS.2.2.2.2.2.2
    go_wp2_with fail
    exact bodyPost_ret (v := (.tuple #[.slice av L.length cv, .int .i64 (u - Int.tdiv q 19), .agg #[.int .i64 lo, .int .i64 hi], .int .i64 y1])) (by simp (maxDischargeDepth := 6) [results, Try.results15, go_sem, *]) rfl ⟨_, L, _, lo, hi, _, rfl, own_base (own_butK hO (two_but _ _ _ _) (by omega)) hb1, by omega, hwf, hBB.trans ((two_but _ _ _ _).below (Nat.le_refl _) hBB.size)⟩
end Go.Proofs.Ytkeijldfblgeaaa
