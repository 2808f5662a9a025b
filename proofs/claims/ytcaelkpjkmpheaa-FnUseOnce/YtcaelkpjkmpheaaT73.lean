/- What the draw of a nonce leaves. -/
import Derived.Test.YtcaelkpjkmpheaaT72
import Derived.Deep.RegionHeld3
import Derived.Deep.DeepCutAuto
import Derived.WalkKit
import Derived.WalkSpells
import Derived.WalkLawsBesides
import Derived.Deep.RegionHeld
namespace Go.Proofs.Ytcaelkpjkmpheaa
open Go.RowKit
set_option linter.unusedVariables false
theorem own_at7 {w : World} {base n c : Nat} {A : Option Addr} {M : Nat → KT} (h : w.ownsRow base 34 4 (.slice A n c) n (krow M n)) (h0 : 0 < n) : ∃ b off, A = some ⟨b, off, none⟩ ∧ Cs w b off (n * 4) (MFAsk M) := by
  rcases own_srcK h with h1 | h1
  · omega
  · exact h1
set_option maxRecDepth 100000 in
set_option maxHeartbeats 4000000 in
theorem l7DrawNonce_any (B p base : Nat) (ep us : Int) (A : Option Addr) (n c : Nat) (M : Nat → KT) (w : World) (hcur : CurOk w B p) (hp : p < base) (hn : n ≤ 17) (hk : kwf M n) (O : w.ownsRow base 34 4 (.slice A n c) n (krow M n)) :
    Calls Try.prog 48 #[.pointer (some ⟨p, 0, none⟩), .agg #[.int .i64 ep, .int .i64 us, .slice A n c]] w fun e w' => ∃ v : Int, e = .returned (.int .i64 v) ∧ (Lit.int .i64 v).wf = true ∧ CurOk w' B p ∧ But p w w' := by
  have hpl := hcur.lt
  have hpw : w.heap.size ≠ p := by omega
  have A1 := Below.nw w (.cells #[.int .i64 ep, .int .i64 us, .slice A n c] 26)
  have N := IB3.new w ep us A n c 26
  have C := hcur.below A1
  have Q : But p w (w.alloc (.cells #[.int .i64 ep, .int .i64 us, .slice A n c] 26)) := But.of_below A1
  replace O := own_belK' O A1
  clear hcur A1
  by_cases h0 : n = 0
  · subst h0
    go_enter Try.func48, Try.ntmps48
    go_upto_region 1 with fail
    generalize w.alloc (.cells #[.int .i64 ep, .int .i64 us, .slice A 0 c] 26) = v at *
    obtain ⟨n0, n1, n2, n3⟩ := id N
    go_wp2_with fail
    refine (l1Below_any B p 3000 _ C).mono ?_; rintro e v4 ⟨x, rfl, xl, xh, _, _, cc, bb⟩; replace Q := Q.trans bb; (have hw : (Lit.int .i64 (x - 1)).wf = true := by simp only [Lit.wf, Bool.and_eq_true, decide_eq_true_eq]; exact ⟨by show (-9223372036854775808 : Int) ≤ x - 1; omega, by show x - 1 ≤ (9223372036854775807 : Int); omega⟩); go_wp2_with fail; go_ret; exact ⟨_, rfl, hw, cc, Q⟩
  · have hn0 : 0 < n := by omega
    go_enter Try.func48, Try.ntmps48
    go_upto_region 1 with fail
    generalize w.alloc (.cells #[.int .i64 ep, .int .i64 us, .slice A n c] 26) = v at *
    obtain ⟨n0, n1, n2, n3⟩ := id N
    go_wp2_with fail
    refine (l1Once_any B p 6 _ C).mono ?_
    rintro e v2 ⟨oo, rfl, cc, bb⟩
    clear n0 n1 n2 n3
    replace N := N.but bb hpw
    replace O := own_butK O bb hp
    replace Q := Q.trans bb
    replace C := cc
    clear cc bb
    cases oo
    · obtain ⟨b, off, rfl, _⟩ := own_at7 O hn0
      obtain ⟨n0, n1, n2, n3⟩ := id N
      go_upto_region 3 with fail
      refine wp_region_held_drew (S := (fun w' => w'.cell? ⟨w.heap.size, 2, none⟩ = some (.slice (some ⟨b, off, none⟩) n c))) (by kernel_rfl) ?_ (fun hHeld => ?_)
      · first | exact n3 | (simp (maxDischargeDepth := 6) [go_sem, *]; done)
      clear n0 n1 n2 n3
      replace N := N.drew
      replace C := C.drew
      replace Q := Q.drew
      replace O : v2.drew.ownsRow base 34 4 (.slice (some ⟨b, off, none⟩) n c) n (krow M n) := O
      generalize v2.drew = v3 at *
      obtain ⟨n0, n1, n2, n3⟩ := id N
      refine wpAnyH_take (i := 0) (v := ?_) (by rw [List.getElem?_toArray]; rfl) (by kernel_rfl) (by kernel_rfl) (by kernel_rfl) (by intro _ _ _ h; exact h) (Or.inl ⟨by rfl, ?_⟩) (by assumption) ?_
      rotate_left
      · (intro w hSw; (try dsimp only at hSw); go_simp; all_goals with_reducible rfl)
      (try simp only [Act.put, List.setIfInBounds_toArray, List.set_cons_zero, List.set_cons_succ])
      refine wpAnyH_take (i := 1) (v := ?_) (by rw [List.getElem?_toArray]; rfl) (by kernel_rfl) (by kernel_rfl) (by kernel_rfl) (by intro _ _ _ h; exact h) (Or.inl ⟨by rfl, ?_⟩) (by assumption) ?_
      rotate_left
      · (intro w hSw; (try dsimp only at hSw); go_simp; all_goals with_reducible rfl)
      (try simp only [Act.put, List.setIfInBounds_toArray, List.set_cons_zero, List.set_cons_succ])
      refine wpAnyH_take (i := 2) (v := ?_) (by rw [List.getElem?_toArray]; rfl) (by kernel_rfl) (by kernel_rfl) (by kernel_rfl) (by intro _ _ _ h; exact h) (Or.inl ⟨by rfl, ?_⟩) (by assumption) ?_
      rotate_left
      · (intro w hSw; (try dsimp only at hSw); go_simp; all_goals with_reducible rfl)
      (try simp only [Act.put, List.setIfInBounds_toArray, List.set_cons_zero, List.set_cons_succ])
      refine wpAnyH_take (i := 3) (v := ?_) (by rw [List.getElem?_toArray]; rfl) (by kernel_rfl) (by kernel_rfl) (by kernel_rfl) (by intro _ _ _ h; exact h) (Or.inl ⟨by rfl, ?_⟩) (by assumption) ?_
      rotate_left
      · (intro w hSw; (try dsimp only at hSw); go_simp; all_goals with_reducible rfl)
      (try simp only [Act.put, List.setIfInBounds_toArray, List.set_cons_zero, List.set_cons_succ])
      refine wpAnyH_take (i := 4) (v := ?_) (by rw [List.getElem?_toArray]; rfl) (by kernel_rfl) (by kernel_rfl) (by kernel_rfl) (by intro _ _ _ h; exact h) (Or.inl ⟨by rfl, ?_⟩) (by assumption) ?_
      rotate_left
      · (intro w hSw; (try dsimp only at hSw); go_simp; all_goals with_reducible rfl)
      (try simp only [Act.put, List.setIfInBounds_toArray, List.set_cons_zero, List.set_cons_succ])
      refine wpAnyH_take (i := 5) (v := ?_) (by rw [List.getElem?_toArray]; rfl) (by kernel_rfl) (by kernel_rfl) (by kernel_rfl) (by intro _ _ _ h; exact h) (Or.inl ⟨by rfl, ?_⟩) (by assumption) ?_
      rotate_left
      · (intro w hSw; (try dsimp only at hSw); go_simp; all_goals with_reducible rfl)
      (try simp only [Act.put, List.setIfInBounds_toArray, List.set_cons_zero, List.set_cons_succ])
      refine wpAnyH_ready (rs := [6]) (by kernel_rfl) (by simp) ?_
      refine (AllReadyH.cons (by rw [List.getElem?_toArray]; rfl) (fun K hK => ?_) AllReadyH.nil)
      go_simp
      refine (l1Below_any B p n _ C).mono ?_; rintro e v4 ⟨x, rfl, xl, xh, xp, _, cc, bb⟩; (have hx := xp (by omega)); (obtain ⟨j, rfl⟩ := Int.eq_ofNat_of_zero_le xl); (have hj : j < n := by omega); clear n0 n1 n2 n3 xp xl xh; (replace N := N.but bb hpw); (replace O := own_butK O bb hp); (replace Q := Q.trans bb); (replace C := cc); clear cc bb; (obtain ⟨b', off', hbo, CS⟩ := own_at7 O hn0); (simp only [Option.some.injEq, Addr.mk.injEq, and_true] at hbo); (obtain ⟨rfl, rfl⟩ := hbo); (have hw := (hk j hj).1); (obtain ⟨y0, y1, y2, y3, hM⟩ := tupAsk M j); (obtain ⟨c0, c1, c2, c3⟩ := CS.elAsk hj hM); rw [hM] at hw; (have hbr := CS.1); clear hM CS; (obtain ⟨n0, n1, n2, n3⟩ := id N)
      (try go_wp2_with fail)
      refine hK.out _ _ ?_ (fun hHeld => ?_)
      · first | exact n3 | (simp (maxDischargeDepth := 6) [go_sem, *]; done)
      clear hK K
      (try simp only [Act.put, List.setIfInBounds_toArray, List.set_cons_zero, List.set_cons_succ])
      refine wpAnyH_take (i := 7) (v := ?_) (by rw [List.getElem?_toArray]; rfl) (by kernel_rfl) (by kernel_rfl) (by kernel_rfl) (by intro _ _ _ h; exact h) (Or.inl ⟨by rfl, ?_⟩) (by assumption) ?_
      rotate_left
      · (intro w hSw; (try dsimp only at hSw); go_simp; all_goals with_reducible rfl)
      (try simp only [Act.put, List.setIfInBounds_toArray, List.set_cons_zero, List.set_cons_succ])
      refine wpAnyH_take (i := 8) (v := ?_) (by rw [List.getElem?_toArray]; rfl) (by kernel_rfl) (by kernel_rfl) (by kernel_rfl) (by intro _ _ _ h; exact h) (Or.inl ⟨by rfl, ?_⟩) (by assumption) ?_
      rotate_left
      · (intro w hSw; (try dsimp only at hSw); go_simp; all_goals with_reducible rfl)
      (try simp only [Act.put, List.setIfInBounds_toArray, List.set_cons_zero, List.set_cons_succ])
      refine wpAnyH_ready (rs := [9]) (by kernel_rfl) (by simp) ?_
      refine (AllReadyH.cons (by rw [List.getElem?_toArray]; rfl) (fun K hK => ?_) AllReadyH.nil)
      go_simp
      refine hK.out _ _ ?_ (fun hHeld => ?_)
      · first | exact n3 | (simp (maxDischargeDepth := 6) [go_sem, *]; done)
      clear hK K
      (try simp only [Act.put, List.setIfInBounds_toArray, List.set_cons_zero, List.set_cons_succ])
      refine wpAnyH_take (i := 10) (v := ?_) (by rw [List.getElem?_toArray]; rfl) (by kernel_rfl) (by kernel_rfl) (by kernel_rfl) (by intro _ _ _ h; exact h) (Or.inl ⟨by rfl, ?_⟩) (by assumption) ?_
      rotate_left
      · (intro w hSw; (try dsimp only at hSw); go_simp; all_goals with_reducible rfl)
      (try simp only [Act.put, List.setIfInBounds_toArray, List.set_cons_zero, List.set_cons_succ])
      refine wpAnyH_done (by kernel_rfl) ?_ _
      (try go_wp2_with fail)
      go_ret
      exact ⟨_, rfl, hw, C, Q⟩
    · go_wp2_with fail
      refine (l1Below_any B p 3000 _ C).mono ?_; rintro e v4 ⟨x, rfl, xl, xh, _, _, cc, bb⟩; replace Q := Q.trans bb; (have hw : (Lit.int .i64 (x - 1)).wf = true := by simp only [Lit.wf, Bool.and_eq_true, decide_eq_true_eq]; exact ⟨by show (-9223372036854775808 : Int) ≤ x - 1; omega, by show x - 1 ≤ (9223372036854775807 : Int); omega⟩); go_wp2_with fail; go_ret; exact ⟨_, rfl, hw, cc, Q⟩
end Go.Proofs.Ytcaelkpjkmpheaa
