/- Contracts of BestTrip. -/
import Derived.Test.YtbkjgiioibgnkaaR86
import Derived.Test.YtbkjgiioibgnkaaR84
import Derived.Deep.RegionHeld3
import Derived.Deep.DeepCutAuto
import Derived.WalkKit
import Derived.WalkSpells
import Derived.WalkLawsBesides
import Derived.Deep.RegionHeld
namespace Go.Proofs.Ytbkjgiioibgnkaa
open Go.RowKit
set_option linter.unusedVariables false
structure Hd (p : Prop) : Prop where
  out : p
def tbZ (n d : Int) (m : TpT) : Int := tbC n d m.1 m.2.1 m.2.2.1 m.2.2.2.1 m.2.2.2.2
def tbW (n d : Int) (m : TpT) : Int := wideI (tbL n d m.1 m.2.1 m.2.2.1 m.2.2.2.1 m.2.2.2.2) (tbH n d m.1 m.2.1 m.2.2.1 m.2.2.2.1 m.2.2.2.2)
def bt (n d : Int) (M : Nat → TpT) : Nat → Int × Int
  | 0 => (-1, 0)
  | k + 1 => if tbZ n d (M k) = 0 ∧ ((bt n d M k).1 < 0 ∨ tbW n d (M k) < (bt n d M k).2) then ((k : Int), tbW n d (M k)) else bt n d M k
theorem bt_no {n d : Int} {M : Nat → TpT} {k : Nat} (h : tbZ n d (M k) ≠ 0) : bt n d M (k + 1) = bt n d M k := by
  rw [bt, if_neg (fun e => h e.1)]
theorem bt_stay {n d : Int} {M : Nat → TpT} {k : Nat} (h1 : ¬ (bt n d M k).1 < 0) (h2 : ¬ tbW n d (M k) < (bt n d M k).2) : bt n d M (k + 1) = bt n d M k := by
  rw [bt, if_neg (fun e => e.2.elim h1 h2)]
theorem bt_new {n d : Int} {M : Nat → TpT} {k : Nat} (h : tbZ n d (M k) = 0) (h2 : (bt n d M k).1 < 0 ∨ tbW n d (M k) < (bt n d M k).2) : bt n d M (k + 1) = ((k : Int), tbW n d (M k)) := by
  rw [bt, if_pos ⟨h, h2⟩]
def btI (n d : Int) (M : Nat → TpT) (m : Nat) : Int := if m ≤ 20 then (bt n d M m).1 else -1
set_option maxHeartbeats 1000000 in
theorem specBest_many (a : Option Addr) (m c : Nat) (n d : Int) (w : World) (hm : m ≤ maxLen) (h : 20 < m) :
    Calls Try.prog 28 #[.agg #[.int .i64 n, .int .i64 d], .slice a m c] w fun e w' => e = .returned (.int .i64 (-1)) ∧ Below w.heap.size w w' := by
  unfold maxLen at hm
  have h1 : (0 : Int) < (m : Int) := by omega
  have h2 : decide ((m : Int) ≤ 20) = false := by simp; omega
  go_enter Try.func28, Try.ntmps28
  go_wp2_with fail
  go_loopw [5, 7] (fun s5 i wr => s5 = .int .i64 (-1) ∧ i = .int .i64 0 ∧ Below w.heap.size w wr) (fun _ i _ => 0)
  case atStart => exact ⟨rfl, rfl, Below.alc _ _⟩
  case round =>
    obtain ⟨rfl, rfl, hB⟩ := hrel
    go_wp2_with fail
    go_ret
    exact ⟨rfl, hB⟩
set_option maxRecDepth 100000 in
set_option maxHeartbeats 8000000 in
theorem specBest_some (b off m c : Nat) (n d : Int) (M : Nat → TpT) (w : World) (hm : m ≤ 20) (hf : Cs w b off (m * 5) (MFTrip M)) :
    Calls Try.prog 28 #[.agg #[.int .i64 n, .int .i64 d], .slice (some ⟨b, off, none⟩) m c] w fun e w' => e = .returned (.int .i64 (bt n d M m).1) ∧ Below w.heap.size w w' := by
  have R0 := Hd.mk hf
  clear hf
  have h2 : (m : Int) ≤ 20 := by omega
  go_enter Try.func28, Try.ntmps28
  go_wp2_with fail
  go_loopw [5, 6, 7] (fun s5 s6 i wr => ∃ k : Nat, k ≤ m ∧ s5 = .int .i64 (bt n d M k).1 ∧ s6 = .int .i64 (bt n d M k).2 ∧ i = .int .i64 k ∧ Bx wr w.heap.size n d ∧ Below w.heap.size w wr) (fun _ _ i _ => m - (intOf i).toNat)
  case atStart => exact ⟨0, Nat.zero_le _, rfl, rfl, rfl, Bx.new w n d 29, Below.alc _ _⟩
  case round =>
    obtain ⟨k, hk, rfl, rfl, rfl, Q, B⟩ := hrel
    by_cases hlt : k < m
    · have hli : (k : Int) < (m : Int) := by omega
      obtain ⟨x0, x1, x2, x3, x4, hM⟩ := tupTrip M k
      have HM := Hd.mk hM
      have R := Hd.mk (R0.out.below B R0.out.1)
      have CT := fun w' => specTripBound_any n d x0 x1 x2 x3 x4 w'
      have CW := fun w' => specWide_any (tbL n d x0 x1 x2 x3 x4) (tbH n d x0 x1 x2 x3 x4) w'
      have hz : tbZ n d (M k) = tbC n d x0 x1 x2 x3 x4 := by rw [hM]; rfl
      have hw : tbW n d (M k) = wideI (tbL n d x0 x1 x2 x3 x4) (tbH n d x0 x1 x2 x3 x4) := by rw [hM]; rfl
      have HZ := Hd.mk hz
      have HW := Hd.mk hw
      have hpq : bt n d M k = ((bt n d M k).1, (bt n d M k).2) := rfl
      have HP := Hd.mk hpq
      clear hM hz hw hpq
      generalize (bt n d M k).1 = P1 at *
      generalize (bt n d M k).2 = P2 at *
      generalize wideI (tbL n d x0 x1 x2 x3 x4) (tbH n d x0 x1 x2 x3 x4) = V at *
      generalize tbL n d x0 x1 x2 x3 x4 = X at *
      generalize tbH n d x0 x1 x2 x3 x4 = Y at *
      generalize tbC n d x0 x1 x2 x3 x4 = Z at *
      generalize wr = v at *
      obtain ⟨b0, b1, b2, b3, b4⟩ := id Q; (try (obtain ⟨n0, n1, n2, n3, n4⟩ := id N)); obtain ⟨c0, c1, c2, c3, c4⟩ := (R.out).elTrip hlt HM.out
      go_wp2_with fail
      go_cut [8, 9] (fun s8 s9 wx => ∃ j : Nat, s8 = .pointer (some ⟨j, 0, none⟩) ∧ s9 = .int .i64 Z ∧ Bx wx j X Y ∧ Bx wx w.heap.size n d ∧ Below w.heap.size w wx)
      case first =>
        refine wp_region_held_drew (S := (fun w' => w'.cell? ⟨w.heap.size, 0, none⟩ = some (.int .i64 n) ∧ w'.cell? ⟨w.heap.size, 1, none⟩ = some (.int .i64 d) ∧ w'.cell? ⟨b, off + k * 5, none⟩ = some (.int .i64 x0) ∧ w'.cell? ⟨b, off + k * 5 + 1, none⟩ = some (.int .i64 x1) ∧ w'.cell? ⟨b, off + k * 5 + 2, none⟩ = some (.int .i64 x2) ∧ w'.cell? ⟨b, off + k * 5 + 3, none⟩ = some (.int .i64 x3) ∧ w'.cell? ⟨b, off + k * 5 + 4, none⟩ = some (.int .i64 x4))) (by kernel_rfl) ?_ (fun hHeld => ?_)
        · simp (maxDischargeDepth := 6) [go_sem, *]
        clear b0 b1 b2 b3 b4 c0 c1 c2 c3 c4; (try clear n0 n1 n2 n3 n4)
        replace Q := Q.drew
        replace R := Hd.mk R.out.drew
        replace B := B.drew
        generalize v.drew = v at *
        obtain ⟨b0, b1, b2, b3, b4⟩ := id Q; (try (obtain ⟨n0, n1, n2, n3, n4⟩ := id N)); obtain ⟨c0, c1, c2, c3, c4⟩ := (R.out).elTrip hlt HM.out
        refine wpAnyH_take (i := 0) (v := ?_) (by rw [List.getElem?_toArray]; rfl) (by kernel_rfl) (by kernel_rfl) (by kernel_rfl) (by intro _ _ _ h; exact h) (Or.inl ⟨by rfl, ?_⟩) (by assumption) ?_
        rotate_left
        · (intro w hSw; (try dsimp only at hSw); go_simp; all_goals with_reducible rfl)
        (try simp only [Act.put, List.setIfInBounds_toArray, List.set_cons_zero, List.set_cons_succ])
        refine wpAnyH_take (i := 1) (v := ?_) (by rw [List.getElem?_toArray]; rfl) (by kernel_rfl) (by kernel_rfl) (by kernel_rfl) (by intro _ _ _ h; exact h) (Or.inl ⟨by rfl, ?_⟩) (by assumption) ?_
        rotate_left
        · (intro w hSw; (try dsimp only at hSw); go_simp; all_goals with_reducible rfl)
        (try simp only [Act.put, List.setIfInBounds_toArray, List.set_cons_zero, List.set_cons_succ])
        refine wpAnyH_take (i := 2) (v := ?_) (by rw [List.getElem?_toArray]; rfl) (by kernel_rfl) (by kernel_rfl) (by kernel_rfl) (by intro _ _ _ h; exact h) (Or.inl ⟨by rfl, ?_⟩) (by assumption) ?_
        rotate_left
        · (intro w hSw; (try dsimp only at hSw); go_simp; all_goals with_reducible rfl)
        (try simp only [Act.put, List.setIfInBounds_toArray, List.set_cons_zero, List.set_cons_succ])
        refine wpAnyH_take (i := 3) (v := ?_) (by rw [List.getElem?_toArray]; rfl) (by kernel_rfl) (by kernel_rfl) (by kernel_rfl) (by intro _ _ _ h; exact h) (Or.inl ⟨by rfl, ?_⟩) (by assumption) ?_
        rotate_left
        · (intro w hSw; (try dsimp only at hSw); go_simp; all_goals with_reducible rfl)
        (try simp only [Act.put, List.setIfInBounds_toArray, List.set_cons_zero, List.set_cons_succ])
        refine wpAnyH_take (i := 4) (v := ?_) (by rw [List.getElem?_toArray]; rfl) (by kernel_rfl) (by kernel_rfl) (by kernel_rfl) (by intro _ _ _ h; exact h) (Or.inl ⟨by rfl, ?_⟩) (by assumption) ?_
        rotate_left
        · (intro w hSw; (try dsimp only at hSw); go_simp; all_goals with_reducible rfl)
        (try simp only [Act.put, List.setIfInBounds_toArray, List.set_cons_zero, List.set_cons_succ])
        refine wpAnyH_ready (rs := [5, 9]) (by kernel_rfl) (by simp) ?_
        refine (AllReadyH.cons (by rw [List.getElem?_toArray]; rfl) (fun K hK => ?_) (AllReadyH.cons (by rw [List.getElem?_toArray]; rfl) (fun K hK => ?_) AllReadyH.nil))
        · go_simp
          refine (CT _).mono ?_; rintro e v ⟨rfl, hb⟩; clear b0 b1 b2 b3 b4 c0 c1 c2 c3 c4; (try clear n0 n1 n2 n3 n4); (replace Q := Q.below hb); (try (replace N := N.below hb)); (replace R := Hd.mk (R.out.below hb R.out.1)); (replace B := B.trans (hb.mono B.size)); clear hb; obtain ⟨b0, b1, b2, b3, b4⟩ := id Q; (try (obtain ⟨n0, n1, n2, n3, n4⟩ := id N)); obtain ⟨c0, c1, c2, c3, c4⟩ := (R.out).elTrip hlt HM.out
          (try go_wp2_with fail)
          refine hK.out _ _ ?_ (fun hHeld => ?_)
          · simp (maxDischargeDepth := 6) [go_sem, *]
          clear hK K
          (try simp only [Act.put, List.setIfInBounds_toArray, List.set_cons_zero, List.set_cons_succ])
          refine wpAnyH_take (i := 6) (v := ?_) (by rw [List.getElem?_toArray]; rfl) (by kernel_rfl) (by kernel_rfl) (by kernel_rfl) (by intro _ _ _ h; exact h) (Or.inl ⟨by rfl, ?_⟩) (by assumption) ?_
          rotate_left
          · (intro w hSw; (try dsimp only at hSw); go_simp; all_goals with_reducible rfl)
          (try simp only [Act.put, List.setIfInBounds_toArray, List.set_cons_zero, List.set_cons_succ])
          refine wpAnyH_take (i := 7) (v := ?_) (by rw [List.getElem?_toArray]; rfl) (by kernel_rfl) (by kernel_rfl) (by kernel_rfl) (by intro _ _ _ h; exact h) (Or.inl ⟨by rfl, ?_⟩) (by assumption) ?_
          rotate_left
          · (intro w hSw; (try dsimp only at hSw); go_simp; all_goals with_reducible rfl)
          (try simp only [Act.put, List.setIfInBounds_toArray, List.set_cons_zero, List.set_cons_succ])
          refine wpAnyH_take (i := 8) (v := ?_) (by rw [List.getElem?_toArray]; rfl) (by kernel_rfl) (by kernel_rfl) (by kernel_rfl) (by intro _ _ _ h; exact h) (Or.inl ⟨by rfl, ?_⟩) (by assumption) ?_
          rotate_left
          · (intro w hSw; (try dsimp only at hSw); go_simp; all_goals with_reducible rfl)
          (try simp only [Act.put, List.setIfInBounds_toArray, List.set_cons_zero, List.set_cons_succ])
          refine wpAnyH_ready (rs := [9]) (by kernel_rfl) (by simp) ?_
          refine (AllReadyH.cons (by rw [List.getElem?_toArray]; rfl) (fun K hK => ?_) AllReadyH.nil)
          go_simp
          (have N := Bx.new v 0 0 26); (have hj : w.heap.size < v.heap.size := b0); (have bj : b < v.heap.size := R.out.1); (have hA := Below.alc v (.cells #[.int .i64 0, .int .i64 0] 26)); clear b0 b1 b2 b3 b4 c0 c1 c2 c3 c4; (try clear n0 n1 n2 n3 n4); (replace Q := Q.below hA); (replace R := Hd.mk (R.out.below hA R.out.1)); (replace B := B.trans (hA.mono B.size)); clear hA; (generalize v.alloc (.cells #[.int .i64 0, .int .i64 0] 26) = v2 at *); obtain ⟨b0, b1, b2, b3, b4⟩ := id Q; (try (obtain ⟨n0, n1, n2, n3, n4⟩ := id N)); obtain ⟨c0, c1, c2, c3, c4⟩ := (R.out).elTrip hlt HM.out
          refine hK.out _ _ ?_ (fun hHeld => ?_)
          · simp (maxDischargeDepth := 6) [go_sem, *]
          clear hK K
          (try simp only [Act.put, List.setIfInBounds_toArray, List.set_cons_zero, List.set_cons_succ])
          refine wpAnyH_ready (rs := [10]) (by kernel_rfl) (by simp) ?_
          refine (AllReadyH.cons (by rw [List.getElem?_toArray]; rfl) (fun K hK => ?_) AllReadyH.nil)
          go_simp
          refine hK.out _ _ ?_ (fun hHeld => ?_)
          · simp (maxDischargeDepth := 6) [go_sem, *]
          clear hK K
          (try simp only [Act.put, List.setIfInBounds_toArray, List.set_cons_zero, List.set_cons_succ])
          refine wpAnyH_take (i := 11) (v := ?_) (by rw [List.getElem?_toArray]; rfl) (by kernel_rfl) (by kernel_rfl) (by kernel_rfl) (by intro _ _ _ h; exact h) (Or.inl ⟨by rfl, ?_⟩) (by assumption) ?_
          rotate_left
          · (intro w hSw; (try dsimp only at hSw); go_simp; all_goals with_reducible rfl)
          (try simp only [Act.put, List.setIfInBounds_toArray, List.set_cons_zero, List.set_cons_succ])
          refine wpAnyH_done (by kernel_rfl) ?_ _
          go_wp2_with fail
          go_meet
          case rel => exact ⟨_, rfl, rfl, N.setI X Y, Q.setIO (by omega) X Y, Below.setI B (by omega) X Y⟩
        · go_simp
          (have N := Bx.new v 0 0 26); (have hj : w.heap.size < v.heap.size := b0); (have bj : b < v.heap.size := R.out.1); (have hA := Below.alc v (.cells #[.int .i64 0, .int .i64 0] 26)); clear b0 b1 b2 b3 b4 c0 c1 c2 c3 c4; (try clear n0 n1 n2 n3 n4); (replace Q := Q.below hA); (replace R := Hd.mk (R.out.below hA R.out.1)); (replace B := B.trans (hA.mono B.size)); clear hA; (generalize v.alloc (.cells #[.int .i64 0, .int .i64 0] 26) = v2 at *); obtain ⟨b0, b1, b2, b3, b4⟩ := id Q; (try (obtain ⟨n0, n1, n2, n3, n4⟩ := id N)); obtain ⟨c0, c1, c2, c3, c4⟩ := (R.out).elTrip hlt HM.out
          refine hK.out _ _ ?_ (fun hHeld => ?_)
          · simp (maxDischargeDepth := 6) [go_sem, *]
          clear hK K
          (try simp only [Act.put, List.setIfInBounds_toArray, List.set_cons_zero, List.set_cons_succ])
          refine wpAnyH_ready (rs := [5]) (by kernel_rfl) (by simp) ?_
          refine (AllReadyH.cons (by rw [List.getElem?_toArray]; rfl) (fun K hK => ?_) AllReadyH.nil)
          go_simp
          refine (CT _).mono ?_; rintro e v ⟨rfl, hb⟩; clear b0 b1 b2 b3 b4 c0 c1 c2 c3 c4; (try clear n0 n1 n2 n3 n4); (replace Q := Q.below hb); (try (replace N := N.below hb)); (replace R := Hd.mk (R.out.below hb R.out.1)); (replace B := B.trans (hb.mono B.size)); clear hb; obtain ⟨b0, b1, b2, b3, b4⟩ := id Q; (try (obtain ⟨n0, n1, n2, n3, n4⟩ := id N)); obtain ⟨c0, c1, c2, c3, c4⟩ := (R.out).elTrip hlt HM.out
          (try go_wp2_with fail)
          refine hK.out _ _ ?_ (fun hHeld => ?_)
          · simp (maxDischargeDepth := 6) [go_sem, *]
          clear hK K
          (try simp only [Act.put, List.setIfInBounds_toArray, List.set_cons_zero, List.set_cons_succ])
          refine wpAnyH_take (i := 6) (v := ?_) (by rw [List.getElem?_toArray]; rfl) (by kernel_rfl) (by kernel_rfl) (by kernel_rfl) (by intro _ _ _ h; exact h) (Or.inl ⟨by rfl, ?_⟩) (by assumption) ?_
          rotate_left
          · (intro w hSw; (try dsimp only at hSw); go_simp; all_goals with_reducible rfl)
          (try simp only [Act.put, List.setIfInBounds_toArray, List.set_cons_zero, List.set_cons_succ])
          refine wpAnyH_take (i := 7) (v := ?_) (by rw [List.getElem?_toArray]; rfl) (by kernel_rfl) (by kernel_rfl) (by kernel_rfl) (by intro _ _ _ h; exact h) (Or.inl ⟨by rfl, ?_⟩) (by assumption) ?_
          rotate_left
          · (intro w hSw; (try dsimp only at hSw); go_simp; all_goals with_reducible rfl)
          (try simp only [Act.put, List.setIfInBounds_toArray, List.set_cons_zero, List.set_cons_succ])
          refine wpAnyH_take (i := 8) (v := ?_) (by rw [List.getElem?_toArray]; rfl) (by kernel_rfl) (by kernel_rfl) (by kernel_rfl) (by intro _ _ _ h; exact h) (Or.inl ⟨by rfl, ?_⟩) (by assumption) ?_
          rotate_left
          · (intro w hSw; (try dsimp only at hSw); go_simp; all_goals with_reducible rfl)
          (try simp only [Act.put, List.setIfInBounds_toArray, List.set_cons_zero, List.set_cons_succ])
          refine wpAnyH_ready (rs := [10]) (by kernel_rfl) (by simp) ?_
          refine (AllReadyH.cons (by rw [List.getElem?_toArray]; rfl) (fun K hK => ?_) AllReadyH.nil)
          go_simp
          refine hK.out _ _ ?_ (fun hHeld => ?_)
          · simp (maxDischargeDepth := 6) [go_sem, *]
          clear hK K
          (try simp only [Act.put, List.setIfInBounds_toArray, List.set_cons_zero, List.set_cons_succ])
          refine wpAnyH_take (i := 11) (v := ?_) (by rw [List.getElem?_toArray]; rfl) (by kernel_rfl) (by kernel_rfl) (by kernel_rfl) (by intro _ _ _ h; exact h) (Or.inl ⟨by rfl, ?_⟩) (by assumption) ?_
          rotate_left
          · (intro w hSw; (try dsimp only at hSw); go_simp; all_goals with_reducible rfl)
          (try simp only [Act.put, List.setIfInBounds_toArray, List.set_cons_zero, List.set_cons_succ])
          refine wpAnyH_done (by kernel_rfl) ?_ _
          go_wp2_with fail
          go_meet
          case rel => exact ⟨_, rfl, rfl, N.setI X Y, Q.setIO (by omega) X Y, Below.setI B (by omega) X Y⟩
      case rest =>
        obtain ⟨j, rfl, rfl, N, Q', B'⟩ := hcut
        clear Q B R b0 b1 b2 b3 b4 c0 c1 c2 c3 c4 CT HM
        have Q := Q'
        have B := B'
        clear Q' B'
        generalize wc = v at *
        obtain ⟨b0, b1, b2, b3, b4⟩ := id Q
        obtain ⟨n0, n1, n2, n3, n4⟩ := id N
        by_cases g1 : Z = 0
        · subst g1
          by_cases g2 : P1 < 0
          · have E := Hd.mk (bt_new (n := n) (d := d) (M := M) (k := k) HZ.out (.inl (by rw [HP.out]; exact g2)))
            rw [HW.out] at E
            clear HZ HW HP
            go_wp2_with fail
            refine (CW _).mono ?_; rintro e v ⟨rfl, hb⟩; clear b0 b1 b2 b3 b4 n0 n1 n2 n3 n4; (replace Q := Q.below hb); (replace N := N.below hb); (replace B := B.trans (hb.mono B.size)); clear hb; obtain ⟨b0, b1, b2, b3, b4⟩ := id Q; obtain ⟨n0, n1, n2, n3, n4⟩ := id N
            go_wp2_with fail
            go_roundw
            case rel => exact ⟨k + 1, by omega, by rw [E.out], by rw [E.out], by go_num, Q, B⟩
            case measure => simp [intOf]; omega
          · have d2 : decide (P1 < 0) = false := decide_eq_false g2
            by_cases g3 : V < P2
            · have E := Hd.mk (bt_new (n := n) (d := d) (M := M) (k := k) HZ.out (.inr (by rw [HP.out, HW.out]; exact g3)))
              rw [HW.out] at E
              clear HZ HW HP
              go_wp2_with fail
              refine (CW _).mono ?_; rintro e v ⟨rfl, hb⟩; clear b0 b1 b2 b3 b4 n0 n1 n2 n3 n4; (replace Q := Q.below hb); (replace N := N.below hb); (replace B := B.trans (hb.mono B.size)); clear hb; obtain ⟨b0, b1, b2, b3, b4⟩ := id Q; obtain ⟨n0, n1, n2, n3, n4⟩ := id N
              go_wp2_with fail
              refine (CW _).mono ?_; rintro e v ⟨rfl, hb⟩; clear b0 b1 b2 b3 b4 n0 n1 n2 n3 n4; (replace Q := Q.below hb); (replace N := N.below hb); (replace B := B.trans (hb.mono B.size)); clear hb; obtain ⟨b0, b1, b2, b3, b4⟩ := id Q; obtain ⟨n0, n1, n2, n3, n4⟩ := id N
              go_wp2_with fail
              go_roundw
              case rel => exact ⟨k + 1, by omega, by rw [E.out], by rw [E.out], by go_num, Q, B⟩
              case measure => simp [intOf]; omega
            · have d3 : decide (V < P2) = false := decide_eq_false g3
              have E := Hd.mk (bt_stay (n := n) (d := d) (M := M) (k := k) (by rw [HP.out]; exact g2) (by rw [HP.out, HW.out]; exact g3))
              clear HZ HW
              go_wp2_with fail
              refine (CW _).mono ?_; rintro e v ⟨rfl, hb⟩; clear b0 b1 b2 b3 b4 n0 n1 n2 n3 n4; (replace Q := Q.below hb); (replace N := N.below hb); (replace B := B.trans (hb.mono B.size)); clear hb; obtain ⟨b0, b1, b2, b3, b4⟩ := id Q; obtain ⟨n0, n1, n2, n3, n4⟩ := id N
              go_wp2_with fail
              go_roundw
              case rel => exact ⟨k + 1, by omega, by rw [E.out, HP.out], by rw [E.out, HP.out], by go_num, Q, B⟩
              case measure => simp [intOf]; omega
        · have d1 : decide (Z = 0) = false := decide_eq_false g1
          have E := Hd.mk (bt_no (n := n) (d := d) (M := M) (k := k) (by rw [HZ.out]; exact g1))
          clear HZ HW
          go_wp2_with fail
          go_roundw
          case rel => exact ⟨k + 1, by omega, by rw [E.out, HP.out], by rw [E.out, HP.out], by go_num, Q, B⟩
          case measure => simp [intOf]; omega
    · have hkm : k = m := by omega
      subst hkm
      go_wp2_with fail
      go_ret
      exact ⟨rfl, B⟩
set_option maxHeartbeats 1000000 in
theorem specBest_zero (a : Option Addr) (c : Nat) (n d : Int) (M : Nat → TpT) (w : World) :
    Calls Try.prog 28 #[.agg #[.int .i64 n, .int .i64 d], .slice a 0 c] w fun e w' => e = .returned (.int .i64 (bt n d M 0).1) ∧ Below w.heap.size w w' := by
  go_enter Try.func28, Try.ntmps28
  go_wp2_with fail
  go_loopw [5, 7] (fun s5 i wr => s5 = .int .i64 (-1) ∧ i = .int .i64 0 ∧ Below w.heap.size w wr) (fun _ i _ => 0)
  case atStart => exact ⟨rfl, rfl, Below.alc _ _⟩
  case round =>
    obtain ⟨rfl, rfl, hB⟩ := hrel
    go_wp2_with fail
    go_ret
    exact ⟨rfl, hB⟩
theorem specBestTrip_any (a : Option Addr) (m c : Nat) (n d : Int) (M : Nat → TpT) (w : World) (hm : m ≤ maxLen) (h : SrcC w a (m * 5) (MFTrip M)) :
    Calls Try.prog 28 #[.agg #[.int .i64 n, .int .i64 d], .slice a m c] w fun e w' => e = .returned (.int .i64 (btI n d M m)) ∧ Below w.heap.size w w' := by
  by_cases hb : m ≤ 20
  · rw [btI, if_pos hb]
    rcases h with h | ⟨b, off, rfl, hp⟩
    · have : m = 0 := by omega
      subst this
      exact specBest_zero a c n d M w
    · exact specBest_some b off m c n d M w hb hp
  · rw [btI, if_neg hb]
    exact specBest_many a m c n d w hm (by omega)
set_option maxHeartbeats 1000000 in
theorem implBest_many (a : Option Addr) (m c : Nat) (n d : Int) (w : World) (hm : m ≤ maxLen) (h : 20 < m) :
    Calls Try.prog 29 #[.agg #[.int .i64 n, .int .i64 d], .slice a m c] w fun e w' => e = .returned (.int .i64 (-1)) ∧ Below w.heap.size w w' := by
  unfold maxLen at hm
  have h2 : (20 : Int) < (m : Int) := by omega
  go_enter Try.func29, Try.ntmps29
  go_wp2_with fail
  go_ret
  exact ⟨rfl, Below.alc _ _⟩
set_option maxRecDepth 100000 in
set_option maxHeartbeats 8000000 in
theorem implBest_some (b off m c : Nat) (n d : Int) (M : Nat → TpT) (w : World) (hm : m ≤ 20) (hf : Cs w b off (m * 5) (MFTrip M)) :
    Calls Try.prog 29 #[.agg #[.int .i64 n, .int .i64 d], .slice (some ⟨b, off, none⟩) m c] w fun e w' => e = .returned (.int .i64 (bt n d M m).1) ∧ Below w.heap.size w w' := by
  have R0 := Hd.mk hf
  clear hf
  have h2 : decide ((20 : Int) < (m : Int)) = false := by simp; omega
  go_enter Try.func29, Try.ntmps29
  go_wp2_with fail
  go_loopw [5, 6, 16] (fun s5 s6 i wr => ∃ k : Nat, k ≤ m ∧ s5 = .int .i64 (bt n d M k).1 ∧ s6 = .int .i64 (bt n d M k).2 ∧ i = .int .i64 k ∧ Bx wr w.heap.size n d ∧ Below w.heap.size w wr) (fun _ _ i _ => m - (intOf i).toNat)
  case atStart => exact ⟨0, Nat.zero_le _, rfl, rfl, rfl, Bx.new w n d 29, Below.alc _ _⟩
  case round =>
    obtain ⟨k, hk, rfl, rfl, rfl, Q, B⟩ := hrel
    by_cases hlt : k < m
    · have hli : (k : Int) < (m : Int) := by omega
      obtain ⟨x0, x1, x2, x3, x4, hM⟩ := tupTrip M k
      obtain ⟨c0, c1, c2, c3, c4⟩ := (R0.out.below B R0.out.1).elTrip hlt hM
      have bj : b < wr.heap.size := Nat.lt_of_lt_of_le R0.out.1 B.size
      have CT := fun w' => boundWidth_any n d x0 x1 x2 x3 x4 w'
      have hz : tbZ n d (M k) = tbC n d x0 x1 x2 x3 x4 := by rw [hM]; rfl
      have hw : tbW n d (M k) = wideI (tbL n d x0 x1 x2 x3 x4) (tbH n d x0 x1 x2 x3 x4) := by rw [hM]; rfl
      have HZ := Hd.mk hz
      have HW := Hd.mk hw
      have hpq : bt n d M k = ((bt n d M k).1, (bt n d M k).2) := rfl
      have HP := Hd.mk hpq
      clear hM hz hw hpq
      generalize (bt n d M k).1 = P1 at *
      generalize (bt n d M k).2 = P2 at *
      generalize wideI (tbL n d x0 x1 x2 x3 x4) (tbH n d x0 x1 x2 x3 x4) = V at *
      generalize tbC n d x0 x1 x2 x3 x4 = Z at *
      have QA := Q.alloc (.cells #[.int .i64 x0, .int .i64 x1, .int .i64 x2, .int .i64 x3, .int .i64 x4] 38)
      have BA := B.alloc B.size (.cells #[.int .i64 x0, .int .i64 x1, .int .i64 x2, .int .i64 x3, .int .i64 x4] 38)
      have hsz : w.heap.size < wr.heap.size := Q.1
      obtain ⟨b0, b1, b2, b3, b4⟩ := Q
      go_wp2_with fail
      refine (CT _).mono ?_
      rintro e v ⟨rfl, hb⟩
      clear b0 b1 b2 b3 b4 c0 c1 c2 c3 c4 B
      have Q := QA.below hb
      have B := BA.trans (hb.mono BA.size)
      clear hb QA BA CT
      by_cases g1 : Z = 0
      · subst g1
        by_cases g2 : P1 < 0
        · have E := Hd.mk (bt_new (n := n) (d := d) (M := M) (k := k) HZ.out (.inl (by rw [HP.out]; exact g2)))
          rw [HW.out] at E
          clear HZ HW HP
          go_wp2_with fail
          go_roundw
          case rel => exact ⟨k + 1, by omega, by rw [E.out], by rw [E.out], by go_num, Q, B⟩
          case measure => simp [intOf]; omega
        · have d2 : decide (P1 < 0) = false := decide_eq_false g2
          by_cases g3 : V < P2
          · have E := Hd.mk (bt_new (n := n) (d := d) (M := M) (k := k) HZ.out (.inr (by rw [HP.out, HW.out]; exact g3)))
            rw [HW.out] at E
            clear HZ HW HP
            go_wp2_with fail
            go_roundw
            case rel => exact ⟨k + 1, by omega, by rw [E.out], by rw [E.out], by go_num, Q, B⟩
            case measure => simp [intOf]; omega
          · have d3 : decide (V < P2) = false := decide_eq_false g3
            have E := Hd.mk (bt_stay (n := n) (d := d) (M := M) (k := k) (by rw [HP.out]; exact g2) (by rw [HP.out, HW.out]; exact g3))
            clear HZ HW
            go_wp2_with fail
            go_roundw
            case rel => exact ⟨k + 1, by omega, by rw [E.out, HP.out], by rw [E.out, HP.out], by go_num, Q, B⟩
            case measure => simp [intOf]; omega
      · have d1 : decide (Z = 0) = false := decide_eq_false g1
        have E := Hd.mk (bt_no (n := n) (d := d) (M := M) (k := k) (by rw [HZ.out]; exact g1))
        clear HZ HW
        go_wp2_with fail
        go_roundw
        case rel => exact ⟨k + 1, by omega, by rw [E.out, HP.out], by rw [E.out, HP.out], by go_num, Q, B⟩
        case measure => simp [intOf]; omega
    · have hkm : k = m := by omega
      subst hkm
      go_wp2_with fail
      go_ret
      exact ⟨rfl, B⟩
set_option maxHeartbeats 1000000 in
theorem implBest_zero (a : Option Addr) (c : Nat) (n d : Int) (M : Nat → TpT) (w : World) :
    Calls Try.prog 29 #[.agg #[.int .i64 n, .int .i64 d], .slice a 0 c] w fun e w' => e = .returned (.int .i64 (bt n d M 0).1) ∧ Below w.heap.size w w' := by
  go_enter Try.func29, Try.ntmps29
  go_wp2_with fail
  go_loopw [5, 16] (fun s5 i wr => s5 = .int .i64 (-1) ∧ i = .int .i64 0 ∧ Below w.heap.size w wr) (fun _ i _ => 0)
  case atStart => exact ⟨rfl, rfl, Below.alc _ _⟩
  case round =>
    obtain ⟨rfl, rfl, hB⟩ := hrel
    go_wp2_with fail
    go_ret
    exact ⟨rfl, hB⟩
theorem implBestTrip_any (a : Option Addr) (m c : Nat) (n d : Int) (M : Nat → TpT) (w : World) (hm : m ≤ maxLen) (h : SrcC w a (m * 5) (MFTrip M)) :
    Calls Try.prog 29 #[.agg #[.int .i64 n, .int .i64 d], .slice a m c] w fun e w' => e = .returned (.int .i64 (btI n d M m)) ∧ Below w.heap.size w w' := by
  by_cases hb : m ≤ 20
  · rw [btI, if_pos hb]
    rcases h with h | ⟨b, off, rfl, hp⟩
    · have : m = 0 := by omega
      subst this
      exact implBest_zero a c n d M w
    · exact implBest_some b off m c n d M w hb hp
  · rw [btI, if_neg hb]
    exact implBest_many a m c n d w hm (by omega)
end Go.Proofs.Ytbkjgiioibgnkaa
