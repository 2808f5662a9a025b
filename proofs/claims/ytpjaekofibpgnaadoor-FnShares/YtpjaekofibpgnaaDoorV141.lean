/- What DrawShareOf leaves; a number in a list. -/
import Derived.Test.YtpjaekofibpgnaaDoorV133
import Derived.Test.YtpjaekofibpgnaaDoorV140
import Derived.Deep.RegionHeld3
import Derived.WalkKit
import Derived.WalkSpells
import Derived.WalkLawsBesides
import Derived.Deep.RegionHeld
namespace Go.Proofs.YtpjaekofibpgnaaDoor
open Go.RowKit
set_option linter.unusedVariables false
theorem ilook {w : World} {a : Option Addr} {L : List Int} (hs : SrcC w a (L.length * 1) (MFInt (gI L))) {j : Nat} (hj : j < L.length) : ∃ b off, a = some ⟨b, off, none⟩ ∧ w.cell? ⟨b, off + j, none⟩ = some (.int .i64 (gI L j)) := by
  rcases hs with q | ⟨b, off, e, hc⟩
  · exact absurd q (by omega)
  · exact ⟨b, off, e, hc.2 j (by omega)⟩
set_option maxRecDepth 100000 in
set_option maxHeartbeats 4000000 in
theorem within_any (a : Option Addr) (l c : Nat) (L : List Int) (x : Int) (w : World) (hll : l = L.length) (hm : L.length ≤ 1048576) (hs : SrcC w a (L.length * 1) (MFInt (gI L))) :
    Calls Tryd.prog 16 #[.slice a l c, .int .i64 x] w fun e w' => e = .returned (.bool (inL L x L.length)) ∧ Below w.heap.size w w' := by
  subst hll
  have HS : Hid (SrcC w a (L.length * 1) (MFInt (gI L))) := hs
  clear hs
  go_enter Tryd.func16, Tryd.ntmps16
  go_wp2_with fail
  go_loopw [5] (fun i wr => ∃ (j : Nat), j ≤ L.length ∧ i = .int .i64 j ∧ inL L x j = false ∧ w = wr) (fun i _ => L.length - (intOf i).toNat)
  case atStart => exact ⟨0, Nat.zero_le _, rfl, rfl, by first | rfl | trivial⟩
  case round =>
    obtain ⟨j, hj2, rfl, hno, rfl⟩ := hrel
    by_cases hlt : j < L.length
    · obtain ⟨b, off, rfl, c1⟩ := ilook HS.out hlt
      have HLT : Hid (j < L.length) := hlt
      have hli : (j : Int) < (L.length : Int) := by omega
      have HE : Hid (inL L x (j + 1) = (gI L j == x)) := by rw [Hid, inL, hno, Bool.false_or]
      have HY : Hid ((gI L j == x) = true → inL L x L.length = true) := fun h => inL_of (beq_iff_eq.1 h) hlt
      clear hno hlt hj2
      generalize gI L j = y at *
      cases ho : (y == x)
      · rw [ho] at HE
        clear HY
        go_wp2_with fail
        go_roundw
        case rel => exact ⟨j + 1, HLT.out, by go_num, HE.out, by first | rfl | trivial⟩
        case measure => have hlt' := HLT.out; simp [intOf]; omega
      · have hy := HY.out ho
        have HH : Hid (inL L x L.length = true) := hy
        clear HE HY hy
        go_wp2_with fail
        go_ret
        exact ⟨by rw [HH.out]; rfl, Below.refl _ _⟩
    · have hkn : j = L.length := by omega
      subst hkn
      have hli : ¬ (L.length : Int) < (L.length : Int) := by omega
      have HH : Hid (inL L x L.length = false) := hno
      clear hno hlt hj2
      go_wp2_with fail
      go_ret
      exact ⟨by rw [HH.out]; rfl, Below.refl _ _⟩
set_option maxRecDepth 100000 in
set_option maxHeartbeats 16000000 in
theorem DrawShareOf_any (a : Option Addr) (l c0 : Nat) (w : World) (hl : l ≤ 1048576) (hcode : CodeB w w.heap.size a l) :
    Calls Tryd.prog 12 #[.slice a l c0] w fun e w' => ∃ (s g : Int) (A : Option Addr) (n c : Nat) (M : Nat → SlT) (o : Int), e = .returned (.tuple #[.agg #[.int .i64 s, .int .i64 g, .slice A n c], .int .i64 o]) ∧ n ≤ 13 ∧ w'.ownsRow w.heap.size 48 2 (.slice A n c) n (srow M n) ∧ Below w.heap.size w w' := by
  have B := Below.nw w (.cells #[.int .i64 0, .int .i64 0, .slice none 0 0] 32)
  have R := Tx3.new w (.int .i64 0) (.int .i64 0) (.slice none 0 0) 32
  replace hcode := (hcode.below B).more B.size
  go_enter Tryd.func12, Tryd.ntmps12
  go_upto_region 1 with fail
  generalize w.alloc (.cells #[.int .i64 0, .int .i64 0, .slice none 0 0] 32) = v at *
  go_wp2_with fail
  refine (l1New_any a l c0 _ hl hcode).mono ?_
  rintro e w1 ⟨p, rfl, cc, nl⟩
  have hq := cc.lt
  have h1p : w.heap.size ≠ p := by have := R.1; omega
  have hwp : w.heap.size ≤ p := by have := B.size; omega
  clear hcode
  replace R := R.below nl
  replace B := B.trans (nl.mono B.size)
  clear nl
  generalize v.heap.size = B0 at *
  have hwo : w.heap.size < w1.heap.size := R.1
  have hpo : p < w1.heap.size := hq.1
  clear hq
  go_wp2_with fail
  refine (l13DrawAny_any B0 p _ cc).mono ?_
  rintro e w2 ⟨s, g, A, n, c, M, rfl, hn13, _, OW, nc, bb⟩
  replace cc := nc
  replace R := R.but bb h1p
  replace B := B.trans (bb.below hwp B.size)
  clear nc bb
  have nl := Below.nw w2 (.cells #[.int .i64 s, .int .i64 g, .slice A n c] 32)
  have KB := Tx3.new w2 (.int .i64 s) (.int .i64 g) (.slice A n c) 32
  have hkp : w2.heap.size ≠ p := Nat.ne_of_gt cc.lt.1
  replace cc := cc.below nl
  replace R := R.below nl
  replace OW := own_belK' OW nl
  replace B := B.trans (nl.mono B.size)
  clear nl
  go_upto_region 3 with fail
  generalize w2.alloc (.cells #[.int .i64 s, .int .i64 g, .slice A n c] 32) = v6 at *
  generalize w2.heap.size = kk at *
  (obtain ⟨k0, k1, k2, k3, k4, k5, k6⟩ := id KB); (obtain ⟨r0, r1, r2, r3, r4, r5, r6⟩ := id R)
  refine wp_region_held_drew (S := (fun _ => True)) (by kernel_rfl) ?_ (fun hHeld => ?_)
  · trivial
  (clear k0 k1 k2 k3 k4 k5 k6 r0 r1 r2 r3 r4 r5 r6)
  replace R := R.drew
  replace KB := KB.drew
  replace cc : CurOk v6.drew B0 p := cc
  replace OW : v6.drew.ownsRow w1.heap.size 48 2 (.slice A n c) n (srow M n) := OW
  replace B := Below.drew B
  generalize v6.drew = vx at *
  (obtain ⟨k0, k1, k2, k3, k4, k5, k6⟩ := id KB); (obtain ⟨r0, r1, r2, r3, r4, r5, r6⟩ := id R)
  refine wpAnyH_take (i := 1) (v := ?_) (by rw [List.getElem?_toArray]; rfl) (by kernel_rfl) (by kernel_rfl) (by kernel_rfl) (by intro _ _ _ h; exact h) (Or.inl ⟨by rfl, ?_⟩) (by assumption) ?_
  rotate_left
  · (intro w hSw; (try dsimp only at hSw); go_simp; all_goals with_reducible rfl)
  (try simp only [Act.put, List.setIfInBounds_toArray, List.set_cons_zero, List.set_cons_succ])
  refine wpAnyH_ready (rs := [0, 2]) (by kernel_rfl) (by simp) ?_
  refine (AllReadyH.cons (by rw [List.getElem?_toArray]; rfl) (fun K hK => ?_) (AllReadyH.cons (by rw [List.getElem?_toArray]; rfl) (fun K hK => ?_) AllReadyH.nil))
  · go_simp
    refine hK.out _ _ ?_ (fun hHeld => ?_)
    · trivial
    clear hK K
    (try simp only [Act.put, List.setIfInBounds_toArray, List.set_cons_zero, List.set_cons_succ])
    refine wpAnyH_ready (rs := [2]) (by kernel_rfl) (by simp) ?_
    refine (AllReadyH.cons (by rw [List.getElem?_toArray]; rfl) (fun K hK => ?_) AllReadyH.nil)
    go_simp
    (clear k0 k1 k2 k3 k4 k5 k6 r0 r1 r2 r3 r4 r5 r6); refine (l1Below_any B0 p 6 _ cc).mono ?_; rintro e v9 ⟨ow, rfl, _, _, _, _, nc, bb⟩; (replace cc := nc); replace R := R.but bb h1p; replace KB := KB.but bb hkp; replace OW := own_butK OW bb hpo; replace B := B.trans (bb.below hwp B.size); clear bb; (clear nc); (obtain ⟨k0, k1, k2, k3, k4, k5, k6⟩ := id KB); (obtain ⟨r0, r1, r2, r3, r4, r5, r6⟩ := id R)
    (try go_wp2_with fail)
    refine hK.out _ _ ?_ (fun hHeld => ?_)
    · trivial
    clear hK K
    (try simp only [Act.put, List.setIfInBounds_toArray, List.set_cons_zero, List.set_cons_succ])
    refine wpAnyH_take (i := 3) (v := ?_) (by rw [List.getElem?_toArray]; rfl) (by kernel_rfl) (by kernel_rfl) (by kernel_rfl) (by intro _ _ _ h; exact h) (Or.inl ⟨by rfl, ?_⟩) (by assumption) ?_
    rotate_left
    · (intro w hSw; (try dsimp only at hSw); go_simp; all_goals with_reducible rfl)
    (try simp only [Act.put, List.setIfInBounds_toArray, List.set_cons_zero, List.set_cons_succ])
    refine wpAnyH_ready (rs := [4]) (by kernel_rfl) (by simp) ?_
    refine (AllReadyH.cons (by rw [List.getElem?_toArray]; rfl) (fun K hK => ?_) AllReadyH.nil)
    go_simp
    (clear k0 k1 k2 k3 k4 k5 k6 r0 r1 r2 r3 r4 r5 r6); (have RR := ((R.set0 (.int .i64 s)).set1 (.int .i64 g)).set2 (.slice A n c)); (have OO := own_butK OW (((But.refl w.heap.size v9).setCell 0 (.int .i64 s)).setCell 1 (.int .i64 g) |>.setCell 2 (.slice A n c)) hwo); (have BB := ((B.setCell (p := ⟨w.heap.size, 0, none⟩) (Nat.le_refl _) (.int .i64 s)).setCell (p := ⟨w.heap.size, 1, none⟩) (Nat.le_refl _) (.int .i64 g)).setCell (p := ⟨w.heap.size, 2, none⟩) (Nat.le_refl _) (.slice A n c)); (clear R OW B KB cc); (generalize ((v9.setCell ⟨w.heap.size, 0, none⟩ (.int .i64 s)).setCell ⟨w.heap.size, 1, none⟩ (.int .i64 g)).setCell ⟨w.heap.size, 2, none⟩ (.slice A n c) = vz at *)
    refine hK.out _ _ ?_ (fun hHeld => ?_)
    · trivial
    clear hK K
    (try simp only [Act.put, List.setIfInBounds_toArray, List.set_cons_zero, List.set_cons_succ])
    refine wpAnyH_take (i := 5) (v := ?_) (by rw [List.getElem?_toArray]; rfl) (by kernel_rfl) (by kernel_rfl) (by kernel_rfl) (by intro _ _ _ h; exact h) (Or.inl ⟨by rfl, ?_⟩) (by assumption) ?_
    rotate_left
    · (intro w hSw; (try dsimp only at hSw); go_simp; all_goals with_reducible rfl)
    (try simp only [Act.put, List.setIfInBounds_toArray, List.set_cons_zero, List.set_cons_succ])
    refine wpAnyH_done (by kernel_rfl) ?_ _
    go_wp2_with fail
    obtain ⟨r0, r1, r2, r3, r4, r5, r6⟩ := id RR
    exact bodyPost_ret (v := (.tuple #[.agg #[.int .i64 s, .int .i64 g, .slice A n c], .int .i64 (IntKind.i64.wrap (ow - 1))])) (by simp (maxDischargeDepth := 6) [results, Tryd.results12, go_sem, *]) rfl ⟨s, g, A, n, c, M, _, rfl, hn13, own_baseI OO (Nat.le_of_lt hwo), BB⟩
  · go_simp
    (clear k0 k1 k2 k3 k4 k5 k6 r0 r1 r2 r3 r4 r5 r6); refine (l1Below_any B0 p 6 _ cc).mono ?_; rintro e v9 ⟨ow, rfl, _, _, _, _, nc, bb⟩; (replace cc := nc); replace R := R.but bb h1p; replace KB := KB.but bb hkp; replace OW := own_butK OW bb hpo; replace B := B.trans (bb.below hwp B.size); clear bb; (clear nc); (obtain ⟨k0, k1, k2, k3, k4, k5, k6⟩ := id KB); (obtain ⟨r0, r1, r2, r3, r4, r5, r6⟩ := id R)
    (try go_wp2_with fail)
    refine hK.out _ _ ?_ (fun hHeld => ?_)
    · trivial
    clear hK K
    (try simp only [Act.put, List.setIfInBounds_toArray, List.set_cons_zero, List.set_cons_succ])
    refine wpAnyH_take (i := 3) (v := ?_) (by rw [List.getElem?_toArray]; rfl) (by kernel_rfl) (by kernel_rfl) (by kernel_rfl) (by intro _ _ _ h; exact h) (Or.inl ⟨by rfl, ?_⟩) (by assumption) ?_
    rotate_left
    · (intro w hSw; (try dsimp only at hSw); go_simp; all_goals with_reducible rfl)
    (try simp only [Act.put, List.setIfInBounds_toArray, List.set_cons_zero, List.set_cons_succ])
    refine wpAnyH_ready (rs := [0]) (by kernel_rfl) (by simp) ?_
    refine (AllReadyH.cons (by rw [List.getElem?_toArray]; rfl) (fun K hK => ?_) AllReadyH.nil)
    go_simp
    refine hK.out _ _ ?_ (fun hHeld => ?_)
    · trivial
    clear hK K
    (try simp only [Act.put, List.setIfInBounds_toArray, List.set_cons_zero, List.set_cons_succ])
    refine wpAnyH_ready (rs := [4]) (by kernel_rfl) (by simp) ?_
    refine (AllReadyH.cons (by rw [List.getElem?_toArray]; rfl) (fun K hK => ?_) AllReadyH.nil)
    go_simp
    (clear k0 k1 k2 k3 k4 k5 k6 r0 r1 r2 r3 r4 r5 r6); (have RR := ((R.set0 (.int .i64 s)).set1 (.int .i64 g)).set2 (.slice A n c)); (have OO := own_butK OW (((But.refl w.heap.size v9).setCell 0 (.int .i64 s)).setCell 1 (.int .i64 g) |>.setCell 2 (.slice A n c)) hwo); (have BB := ((B.setCell (p := ⟨w.heap.size, 0, none⟩) (Nat.le_refl _) (.int .i64 s)).setCell (p := ⟨w.heap.size, 1, none⟩) (Nat.le_refl _) (.int .i64 g)).setCell (p := ⟨w.heap.size, 2, none⟩) (Nat.le_refl _) (.slice A n c)); (clear R OW B KB cc); (generalize ((v9.setCell ⟨w.heap.size, 0, none⟩ (.int .i64 s)).setCell ⟨w.heap.size, 1, none⟩ (.int .i64 g)).setCell ⟨w.heap.size, 2, none⟩ (.slice A n c) = vz at *)
    refine hK.out _ _ ?_ (fun hHeld => ?_)
    · trivial
    clear hK K
    (try simp only [Act.put, List.setIfInBounds_toArray, List.set_cons_zero, List.set_cons_succ])
    refine wpAnyH_take (i := 5) (v := ?_) (by rw [List.getElem?_toArray]; rfl) (by kernel_rfl) (by kernel_rfl) (by kernel_rfl) (by intro _ _ _ h; exact h) (Or.inl ⟨by rfl, ?_⟩) (by assumption) ?_
    rotate_left
    · (intro w hSw; (try dsimp only at hSw); go_simp; all_goals with_reducible rfl)
    (try simp only [Act.put, List.setIfInBounds_toArray, List.set_cons_zero, List.set_cons_succ])
    refine wpAnyH_done (by kernel_rfl) ?_ _
    go_wp2_with fail
    obtain ⟨r0, r1, r2, r3, r4, r5, r6⟩ := id RR
    exact bodyPost_ret (v := (.tuple #[.agg #[.int .i64 s, .int .i64 g, .slice A n c], .int .i64 (IntKind.i64.wrap (ow - 1))])) (by simp (maxDischargeDepth := 6) [results, Tryd.results12, go_sem, *]) rfl ⟨s, g, A, n, c, M, _, rfl, hn13, own_baseI OO (Nat.le_of_lt hwo), BB⟩
end Go.Proofs.YtpjaekofibpgnaaDoor
