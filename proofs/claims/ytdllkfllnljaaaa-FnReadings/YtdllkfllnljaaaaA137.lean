/- The program: ReadsOk. -/
import Derived.Test.YtdllkfllnljaaaaA136
import Derived.Test.YtdllkfllnljaaaaA133
import Derived.Deep.RegionHeld3
import Derived.Laws.EntriesVeiled
import Derived.WalkKit
import Derived.WalkSpells
import Derived.WalkLawsBesides
import Derived.Deep.RegionHeld
namespace Go.Proofs.Ytdllkfllnljaaaa
open Go.RowKit
set_option linter.unusedVariables false
theorem reading_guard (i j : Nat) (a : Int) (b : Bool) (c p : Int) (q : Bool) (r : Int) (w : World) : (eqGuard .neq 40 (.tmp i) (.tmp j) (.agg #[.int .i64 a, .bool b, .int .i64 c]) (.agg #[.int .i64 p, .bool q, .int .i64 r])).run Try.prog w = .ok () w := by kernel_rfl
theorem reading_neq (a : Int) (b : Bool) (c p : Int) (q : Bool) (r : Int) (w : World) : (binOp .neq 40 (.agg #[.int .i64 a, .bool b, .int .i64 c]) (.agg #[.int .i64 p, .bool q, .int .i64 r])).run Try.prog w = .ok (.bool (!((a == p && (b == q)) && (c == r)))) w := by
  by_cases h : a = p
  · have h' : (a == p) = true := by simp [h]
    cases k : (b == q)
    · rw [h']
      go_simp
    · by_cases m : c = r
      · have m' : (c == r) = true := by simp [m]
        rw [h', m']
        go_simp
      · have m' : (c == r) = false := beq_eq_false_iff_ne.2 m
        rw [h', m']
        go_simp
  · have h' : (a == p) = false := beq_eq_false_iff_ne.2 h
    rw [h']
    go_simp

set_option maxRecDepth 100000 in
set_option maxHeartbeats 16000000 in
theorem implReadsOk_some (b off c b' off' c' n : Nat) (M : Nat → LkT) (R : Nat → RgT) (w : World) (hn : n ≤ 200) (hf : Cs w b off (n * 3) (MFLook M)) (hg : Cs w b' off' (n * 3) (MFReading R)) :
    Calls Try.prog 14 #[.slice (some ⟨b, off, none⟩) n c, .slice (some ⟨b', off', none⟩) n c'] w fun e w' => e = .returned (.bool (rkB M R n n)) ∧ Below w.heap.size w w' := by
  have hni : ¬ (200 : Int) < (n : Int) := by omega
  have hnz : ((n : Int) != (n : Int)) = false := by simp
  have B := Below.nw w (.cells #[.bool false, .int .i64 0, .nilFunc] 75)
  have K := Tx3.new w (.bool false) (.int .i64 0) .nilFunc 75
  go_enter Try.func14, Try.ntmps14
  go_upto_region 4 with fail
  generalize w.alloc (.cells #[.bool false, .int .i64 0, .nilFunc] 75) = v at *
  go_wp2_with fail
  go_loopw [21] (fun i wr => ∃ (k : Nat) (H : Bool) (T : Int) (fv : Value), k ≤ n ∧ i = .int .i64 k ∧ rkS R k = (H, T) ∧ rkA M R k = true ∧ apB H T = true ∧ Tx3 wr w.heap.size (.bool H) (.int .i64 T) fv ∧ Below w.heap.size w wr) (fun i _ => n - (intOf i).toNat)
  case atStart => exact ⟨0, false, 0, .nilFunc, Nat.zero_le _, rfl, rfl, rfl, rfl, K, B⟩
  case round =>
    clear K B
    obtain ⟨k, H, T, fv, hk, rfl, hS, hA, ha, K, B⟩ := hrel
    by_cases hlt : k < n
    · obtain ⟨y, lo, hi, hM⟩ := tupLook M k
      obtain ⟨x, d, c0, hR⟩ := tupReading R k
      have LK : Hid (∀ w', Below w.heap.size w w' → w'.cell? ⟨b, off + k * 3, none⟩ = some (.bool y) ∧ w'.cell? ⟨b, off + k * 3 + 1, none⟩ = some (.int .i64 lo) ∧ w'.cell? ⟨b, off + k * 3 + 2, none⟩ = some (.int .i64 hi)) := fun w' hw => (hf.below hw hf.1).elLook hlt hM
      have RK : Hid (∀ w', Below w.heap.size w w' → w'.cell? ⟨b', off' + k * 3, none⟩ = some (.int .i64 x) ∧ w'.cell? ⟨b', off' + k * 3 + 1, none⟩ = some (.bool d) ∧ w'.cell? ⟨b', off' + k * 3 + 2, none⟩ = some (.int .i64 c0)) := fun w' hw => (hg.below hw hg.1).elReading hlt hR
      have HA : Hid (rkA M R (k + 1) = rk1 H T y lo hi x d c0) := rkA_step hS hM hR hA
      have HLT : Hid (k < n) := hlt
      have HR : Hid (R k = (x, d, c0)) := hR
      have HS : Hid (rkS R k = (H, T)) := hS
      have HAP : Hid (apB H T = true) := ha
      have hli : (k : Int) < (n : Int) := by omega
      clear hM hR hS hA hf hg ha
      have NL := Below.nw wr (.cells #[.bool y, .int .i64 lo, .int .i64 hi] 32)
      have Q := Tx3.new wr (.bool y) (.int .i64 lo) (.int .i64 hi) 32
      have dq : w.heap.size ≠ wr.heap.size := Nat.ne_of_lt K.1
      obtain ⟨c1, c2, c3⟩ := LK.out wr B
      go_upto_region 7 with fail
      clear c1 c2 c3
      replace K := K.below NL
      replace B := B.trans (NL.mono B.size)
      clear NL LK
      generalize wr.alloc (.cells #[.bool y, .int .i64 lo, .int .i64 hi] 32) = w2 at *
      generalize wr.heap.size = jk at *
      have K3 := K.set2 (.func (.func 44) #[.agg #[.int .i64 x, .bool d, .int .i64 c0]] #[])
      have Q3 := Q.setO dq 2 (.func (.func 44) #[.agg #[.int .i64 x, .bool d, .int .i64 c0]] #[])
      have B3 := B.setCell (p := ⟨w.heap.size, 2, none⟩) (Nat.le_refl _) (.func (.func 44) #[.agg #[.int .i64 x, .bool d, .int .i64 c0]] #[])
      obtain ⟨c1, c2, c3⟩ := RK.out w2 B
      obtain ⟨a0, a1, a2, a3, a4, a5, a6⟩ := id K
      go_upto_region 8 with fail
      clear c1 c2 c3 a0 a1 a2 a3 a4 a5 a6 K Q B
      generalize w2.setCell ⟨w.heap.size, 2, none⟩ (.func (.func 44) #[.agg #[.int .i64 x, .bool d, .int .i64 c0]] #[]) = w3 at *
      have CR := fun (w' : World) (H0 : Tx3 w' w.heap.size (.bool H) (.int .i64 T) (.func (.func 44) #[.agg #[.int .i64 x, .bool d, .int .i64 c0]] #[])) => read_near w.heap.size H T x d c0 y lo hi w' H0
      have NR : Hid (rk1 H T y lo hi x d c0 = (nrB H T y lo hi x d c0 && !(arC H T y lo hi == 1))) := near_rk HAP.out
      have NX : Hid (nrB H T y lo hi x d c0 = true → (arC H T y lo hi == 1) = false → apB (gdS H T y lo hi (nearI lo hi x)).1 (gdS H T y lo hi (nearI lo hi x)).2 = true ∧ ((c0 == 2) = true → gdS H T y lo hi (nearI lo hi x) = (H, T)) ∧ ((c0 == 2) = false → gdS H T y lo hi (nearI lo hi x) = (true, x))) := fun h1 h2 => near_next HAP.out h1 h2
      unfold nrB at NR NX
      clear HAP
      generalize gdX H T y lo hi (nearI lo hi x) = X at *
      generalize gdS H T y lo hi (nearI lo hi x) = s at *
      generalize arD H T y lo hi = D at *
      generalize arC H T y lo hi = C at *
      obtain ⟨H', T'⟩ := s
      obtain ⟨q0, q1, q2, q3, q4, q5, q6⟩ := id Q3
      go_wp2_with fail
      refine (CR w3 K3).mono ?_
      rintro e w4 ⟨rfl, K4, bt⟩
      clear q0 q1 q2 q3 q4 q5 q6 Q3 K3 CR
      replace B3 := B3.trans (bt.below (Nat.le_refl _) B3.size)
      clear bt
      have NL := Below.nw w4 (.cells #[.int .i64 X, .bool D, .int .i64 C] 40)
      have G := Tx3.new w4 (.int .i64 X) (.bool D) (.int .i64 C) 40
      go_upto_region 9 with fail
      replace K4 := K4.below NL
      replace B3 := B3.trans (NL.mono B3.size)
      clear NL
      generalize w4.alloc (.cells #[.int .i64 X, .bool D, .int .i64 C] 40) = w5 at *
      generalize w4.heap.size = jg at *
      have SK : Hid (∀ w', Below w5.heap.size w5 w' → ((fun w' => w'.cell? ⟨b', off' + k * 3, none⟩ = some (.int .i64 x) ∧ w'.cell? ⟨b', off' + k * 3 + 1, none⟩ = some (.bool d) ∧ w'.cell? ⟨b', off' + k * 3 + 2, none⟩ = some (.int .i64 c0) ∧ w'.cell? ⟨jg, 0, none⟩ = some (.int .i64 X) ∧ w'.cell? ⟨jg, 1, none⟩ = some (.bool D) ∧ w'.cell? ⟨jg, 2, none⟩ = some (.int .i64 C))) w') := fun w' hw => by
        obtain ⟨c1, c2, c3⟩ := RK.out w' (B3.trans (hw.mono B3.size))
        exact ⟨c1, c2, c3, (G.below hw).2.1, (G.below hw).2.2.1, (G.below hw).2.2.2.1⟩
      have rg := reading_guard
      have rn := fun w' => reading_neq X D C x d c0 w'
      clear RK
      cases he : ((X == x && (D == d)) && (C == c0))
      · have HF : Hid (rkA M R (k + 1) = false) := by rw [Hid, HA.out, NR.out, he]; rfl
        rw [he] at rn
        clear NR NX HA he
        refine wp_region_held_drew (S := (fun w' => w'.cell? ⟨b', off' + k * 3, none⟩ = some (.int .i64 x) ∧ w'.cell? ⟨b', off' + k * 3 + 1, none⟩ = some (.bool d) ∧ w'.cell? ⟨b', off' + k * 3 + 2, none⟩ = some (.int .i64 c0) ∧ w'.cell? ⟨jg, 0, none⟩ = some (.int .i64 X) ∧ w'.cell? ⟨jg, 1, none⟩ = some (.bool D) ∧ w'.cell? ⟨jg, 2, none⟩ = some (.int .i64 C))) (by kernel_rfl) ?_ (fun hHeld => ?_)
        · first | exact SK.out _ XB | exact SK.out _ (Below.drew (Below.refl _ _))
        have XB : Below w5.heap.size w5 w5.drew := Below.drew (Below.refl _ _)
        generalize w5.drew = vx at *
        refine wpAnyH_take (i := 0) (v := ?_) (by rw [List.getElem?_toArray]; rfl) (by kernel_rfl) (by kernel_rfl) (by kernel_rfl) (by intro _ _ _ h; exact h) (Or.inl ⟨by rfl, ?_⟩) (by assumption) ?_
        rotate_left
        · (intro w hSw; (try dsimp only at hSw); go_simp; all_goals with_reducible rfl)
        (try simp only [Act.put, List.setIfInBounds_toArray, List.set_cons_zero, List.set_cons_succ])
        refine wpAnyH_take (i := 1) (v := ?_) (by rw [List.getElem?_toArray]; rfl) (by kernel_rfl) (by kernel_rfl) (by kernel_rfl) (by intro _ _ _ h; exact h) (Or.inl ⟨by rfl, ?_⟩) (by assumption) ?_
        rotate_left
        · (intro w hSw; (try dsimp only at hSw); go_simp; all_goals with_reducible rfl)
        (try simp only [Act.put, List.setIfInBounds_toArray, List.set_cons_zero, List.set_cons_succ])
        refine wpAnyH_take (i := 2) (v := ?_) (by rw [List.getElem?_toArray]; rfl) (by kernel_rfl) (by kernel_rfl) (by kernel_rfl) (by intro _ _ _ h; exact h) (Or.inl ⟨by rfl, ?_⟩) (by assumption) ?_
        rotate_left
        · (intro w hSw; (try dsimp only at hSw); go_simp; all_goals with_reducible rfl)
        (try simp only [Act.put, List.setIfInBounds_toArray, List.set_cons_zero, List.set_cons_succ])
        refine wpAnyH_take (i := 3) (v := ?_) (by rw [List.getElem?_toArray]; rfl) (by kernel_rfl) (by kernel_rfl) (by kernel_rfl) (by intro _ _ _ h; exact h) (Or.inl ⟨by rfl, ?_⟩) (by assumption) ?_
        rotate_left
        · (intro w hSw; (try dsimp only at hSw); go_simp; all_goals with_reducible rfl)
        (try simp only [Act.put, List.setIfInBounds_toArray, List.set_cons_zero, List.set_cons_succ])
        refine wpAnyH_take (i := 4) (v := ?_) (by rw [List.getElem?_toArray]; rfl) (by kernel_rfl) (by kernel_rfl) (by kernel_rfl) (by intro _ _ _ h; exact h) (Or.inl ⟨by rfl, ?_⟩) (by assumption) ?_
        rotate_left
        · (intro w hSw; (try dsimp only at hSw); go_simp; all_goals with_reducible rfl)
        (try simp only [Act.put, List.setIfInBounds_toArray, List.set_cons_zero, List.set_cons_succ])
        refine wpAnyH_take (i := 5) (v := ?_) (by rw [List.getElem?_toArray]; rfl) (by kernel_rfl) (by kernel_rfl) (by kernel_rfl) (by intro _ _ _ h; exact h) (Or.inl ⟨by rfl, ?_⟩) (by assumption) ?_
        rotate_left
        · (intro w hSw; (try dsimp only at hSw); go_simp; all_goals with_reducible rfl)
        (try simp only [Act.put, List.setIfInBounds_toArray, List.set_cons_zero, List.set_cons_succ])
        refine wpAnyH_take (i := 6) (v := ?_) (by rw [List.getElem?_toArray]; rfl) (by kernel_rfl) (by kernel_rfl) (by kernel_rfl) (by intro _ _ _ h; exact h) (Or.inl ⟨by rfl, ?_⟩) (by assumption) ?_
        rotate_left
        · (intro w hSw; (try dsimp only at hSw); go_simp; all_goals with_reducible rfl)
        (try simp only [Act.put, List.setIfInBounds_toArray, List.set_cons_zero, List.set_cons_succ])
        refine wpAnyH_take (i := 7) (v := undef) (by rw [List.getElem?_toArray]; rfl) (by kernel_rfl) (by kernel_rfl) (by kernel_rfl) (by intro _ _ _ h; exact h) (Or.inr ⟨by rfl, rfl⟩) (by assumption) ?_
        (try simp only [Act.put, List.setIfInBounds_toArray, List.set_cons_zero, List.set_cons_succ])
        refine wpAnyH_take (i := 8) (v := undef) (by rw [List.getElem?_toArray]; rfl) (by kernel_rfl) (by kernel_rfl) (by kernel_rfl) (by intro _ _ _ h; exact h) (Or.inr ⟨by rfl, rfl⟩) (by assumption) ?_
        (try simp only [Act.put, List.setIfInBounds_toArray, List.set_cons_zero, List.set_cons_succ])
        refine wpAnyH_take (i := 9) (v := undef) (by rw [List.getElem?_toArray]; rfl) (by kernel_rfl) (by kernel_rfl) (by kernel_rfl) (by intro _ _ _ h; exact h) (Or.inr ⟨by rfl, rfl⟩) (by assumption) ?_
        (try simp only [Act.put, List.setIfInBounds_toArray, List.set_cons_zero, List.set_cons_succ])
        refine wpAnyH_take (i := 10) (v := ?_) (by rw [List.getElem?_toArray]; rfl) (by kernel_rfl) (by kernel_rfl) (by kernel_rfl) (by intro _ _ _ h; exact h) (Or.inl ⟨by rfl, ?_⟩) (by assumption) ?_
        rotate_left
        · (intro w hSw; (try dsimp only at hSw); go_simp; all_goals with_reducible rfl)
        (try simp only [Act.put, List.setIfInBounds_toArray, List.set_cons_zero, List.set_cons_succ])
        refine wpAnyH_done (by kernel_rfl) ?_ _
        go_wp2_with fail
        go_ret
        exact ⟨ret_bool (rkB_no (rkA_no HF.out HLT.out)).symm, B3.trans (XB.mono B3.size)⟩
      · rw [he] at rn
        cases hc : (C == 1)
        · have HT : Hid (rkA M R (k + 1) = true) := by rw [Hid, HA.out, NR.out, he, hc]; rfl
          have HX : Hid (apB H' T' = true ∧ ((c0 == 2) = true → (H', T') = (H, T)) ∧ ((c0 == 2) = false → (H', T') = (true, x))) := NX.out he hc
          clear NR NX HA he
          refine wp_region_held_drew (S := (fun w' => w'.cell? ⟨b', off' + k * 3, none⟩ = some (.int .i64 x) ∧ w'.cell? ⟨b', off' + k * 3 + 1, none⟩ = some (.bool d) ∧ w'.cell? ⟨b', off' + k * 3 + 2, none⟩ = some (.int .i64 c0) ∧ w'.cell? ⟨jg, 0, none⟩ = some (.int .i64 X) ∧ w'.cell? ⟨jg, 1, none⟩ = some (.bool D) ∧ w'.cell? ⟨jg, 2, none⟩ = some (.int .i64 C))) (by kernel_rfl) ?_ (fun hHeld => ?_)
          · first | exact SK.out _ XB | exact SK.out _ (Below.drew (Below.refl _ _))
          have XB : Below w5.heap.size w5 w5.drew := Below.drew (Below.refl _ _)
          generalize w5.drew = vx at *
          refine wpAnyH_take (i := 0) (v := ?_) (by rw [List.getElem?_toArray]; rfl) (by kernel_rfl) (by kernel_rfl) (by kernel_rfl) (by intro _ _ _ h; exact h) (Or.inl ⟨by rfl, ?_⟩) (by assumption) ?_
          rotate_left
          · (intro w hSw; (try dsimp only at hSw); go_simp; all_goals with_reducible rfl)
          (try simp only [Act.put, List.setIfInBounds_toArray, List.set_cons_zero, List.set_cons_succ])
          refine wpAnyH_take (i := 1) (v := ?_) (by rw [List.getElem?_toArray]; rfl) (by kernel_rfl) (by kernel_rfl) (by kernel_rfl) (by intro _ _ _ h; exact h) (Or.inl ⟨by rfl, ?_⟩) (by assumption) ?_
          rotate_left
          · (intro w hSw; (try dsimp only at hSw); go_simp; all_goals with_reducible rfl)
          (try simp only [Act.put, List.setIfInBounds_toArray, List.set_cons_zero, List.set_cons_succ])
          refine wpAnyH_take (i := 2) (v := ?_) (by rw [List.getElem?_toArray]; rfl) (by kernel_rfl) (by kernel_rfl) (by kernel_rfl) (by intro _ _ _ h; exact h) (Or.inl ⟨by rfl, ?_⟩) (by assumption) ?_
          rotate_left
          · (intro w hSw; (try dsimp only at hSw); go_simp; all_goals with_reducible rfl)
          (try simp only [Act.put, List.setIfInBounds_toArray, List.set_cons_zero, List.set_cons_succ])
          refine wpAnyH_take (i := 3) (v := ?_) (by rw [List.getElem?_toArray]; rfl) (by kernel_rfl) (by kernel_rfl) (by kernel_rfl) (by intro _ _ _ h; exact h) (Or.inl ⟨by rfl, ?_⟩) (by assumption) ?_
          rotate_left
          · (intro w hSw; (try dsimp only at hSw); go_simp; all_goals with_reducible rfl)
          (try simp only [Act.put, List.setIfInBounds_toArray, List.set_cons_zero, List.set_cons_succ])
          refine wpAnyH_take (i := 4) (v := ?_) (by rw [List.getElem?_toArray]; rfl) (by kernel_rfl) (by kernel_rfl) (by kernel_rfl) (by intro _ _ _ h; exact h) (Or.inl ⟨by rfl, ?_⟩) (by assumption) ?_
          rotate_left
          · (intro w hSw; (try dsimp only at hSw); go_simp; all_goals with_reducible rfl)
          (try simp only [Act.put, List.setIfInBounds_toArray, List.set_cons_zero, List.set_cons_succ])
          refine wpAnyH_take (i := 5) (v := ?_) (by rw [List.getElem?_toArray]; rfl) (by kernel_rfl) (by kernel_rfl) (by kernel_rfl) (by intro _ _ _ h; exact h) (Or.inl ⟨by rfl, ?_⟩) (by assumption) ?_
          rotate_left
          · (intro w hSw; (try dsimp only at hSw); go_simp; all_goals with_reducible rfl)
          (try simp only [Act.put, List.setIfInBounds_toArray, List.set_cons_zero, List.set_cons_succ])
          refine wpAnyH_take (i := 6) (v := ?_) (by rw [List.getElem?_toArray]; rfl) (by kernel_rfl) (by kernel_rfl) (by kernel_rfl) (by intro _ _ _ h; exact h) (Or.inl ⟨by rfl, ?_⟩) (by assumption) ?_
          rotate_left
          · (intro w hSw; (try dsimp only at hSw); go_simp; all_goals with_reducible rfl)
          (try simp only [Act.put, List.setIfInBounds_toArray, List.set_cons_zero, List.set_cons_succ])
          refine wpAnyH_take (i := 7) (v := ?_) (by rw [List.getElem?_toArray]; rfl) (by kernel_rfl) (by kernel_rfl) (by kernel_rfl) (by intro _ _ _ h; exact h) (Or.inl ⟨by rfl, ?_⟩) (by assumption) ?_
          rotate_left
          · (intro w hSw; (try dsimp only at hSw); go_simp; all_goals with_reducible rfl)
          (try simp only [Act.put, List.setIfInBounds_toArray, List.set_cons_zero, List.set_cons_succ])
          refine wpAnyH_take (i := 8) (v := ?_) (by rw [List.getElem?_toArray]; rfl) (by kernel_rfl) (by kernel_rfl) (by kernel_rfl) (by intro _ _ _ h; exact h) (Or.inl ⟨by rfl, ?_⟩) (by assumption) ?_
          rotate_left
          · (intro w hSw; (try dsimp only at hSw); go_simp; all_goals with_reducible rfl)
          (try simp only [Act.put, List.setIfInBounds_toArray, List.set_cons_zero, List.set_cons_succ])
          refine wpAnyH_take (i := 9) (v := ?_) (by rw [List.getElem?_toArray]; rfl) (by kernel_rfl) (by kernel_rfl) (by kernel_rfl) (by intro _ _ _ h; exact h) (Or.inl ⟨by rfl, ?_⟩) (by assumption) ?_
          rotate_left
          · (intro w hSw; (try dsimp only at hSw); go_simp; all_goals with_reducible rfl)
          (try simp only [Act.put, List.setIfInBounds_toArray, List.set_cons_zero, List.set_cons_succ])
          (try simp only [hc])
          refine wpAnyH_take (i := 10) (v := ?_) (by rw [List.getElem?_toArray]; rfl) (by kernel_rfl) (by kernel_rfl) (by kernel_rfl) (by intro _ _ _ h; exact h) (Or.inl ⟨by rfl, ?_⟩) (by assumption) ?_
          rotate_left
          · (intro w hSw; (try dsimp only at hSw); go_simp; all_goals with_reducible rfl)
          (try simp only [Act.put, List.setIfInBounds_toArray, List.set_cons_zero, List.set_cons_succ])
          refine wpAnyH_done (by kernel_rfl) ?_ _
          replace K4 := K4.below XB
          replace B3 := B3.trans (XB.mono B3.size)
          go_wp2_with fail
          go_roundw
          case rel =>
            refine ⟨k + 1, H', T', (.func (.func 44) #[.agg #[.int .i64 x, .bool d, .int .i64 c0]] #[]), HLT.out, by go_num, ?_, HT.out, HX.out.1, K4, B3⟩
            cases h2 : (c0 == 2)
            · rw [rkS_we HR.out h2, HX.out.2.2 h2]
            · rw [rkS_un HR.out h2, HS.out, HX.out.2.1 h2]
          case measure => have hlt' := HLT.out; simp [intOf]; omega
        · have HF : Hid (rkA M R (k + 1) = false) := by rw [Hid, HA.out, NR.out, hc]; simp
          clear NR NX HA he
          refine wp_region_held_drew (S := (fun w' => w'.cell? ⟨b', off' + k * 3, none⟩ = some (.int .i64 x) ∧ w'.cell? ⟨b', off' + k * 3 + 1, none⟩ = some (.bool d) ∧ w'.cell? ⟨b', off' + k * 3 + 2, none⟩ = some (.int .i64 c0) ∧ w'.cell? ⟨jg, 0, none⟩ = some (.int .i64 X) ∧ w'.cell? ⟨jg, 1, none⟩ = some (.bool D) ∧ w'.cell? ⟨jg, 2, none⟩ = some (.int .i64 C))) (by kernel_rfl) ?_ (fun hHeld => ?_)
          · first | exact SK.out _ XB | exact SK.out _ (Below.drew (Below.refl _ _))
          have XB : Below w5.heap.size w5 w5.drew := Below.drew (Below.refl _ _)
          generalize w5.drew = vx at *
          refine wpAnyH_take (i := 0) (v := ?_) (by rw [List.getElem?_toArray]; rfl) (by kernel_rfl) (by kernel_rfl) (by kernel_rfl) (by intro _ _ _ h; exact h) (Or.inl ⟨by rfl, ?_⟩) (by assumption) ?_
          rotate_left
          · (intro w hSw; (try dsimp only at hSw); go_simp; all_goals with_reducible rfl)
          (try simp only [Act.put, List.setIfInBounds_toArray, List.set_cons_zero, List.set_cons_succ])
          refine wpAnyH_take (i := 1) (v := ?_) (by rw [List.getElem?_toArray]; rfl) (by kernel_rfl) (by kernel_rfl) (by kernel_rfl) (by intro _ _ _ h; exact h) (Or.inl ⟨by rfl, ?_⟩) (by assumption) ?_
          rotate_left
          · (intro w hSw; (try dsimp only at hSw); go_simp; all_goals with_reducible rfl)
          (try simp only [Act.put, List.setIfInBounds_toArray, List.set_cons_zero, List.set_cons_succ])
          refine wpAnyH_take (i := 2) (v := ?_) (by rw [List.getElem?_toArray]; rfl) (by kernel_rfl) (by kernel_rfl) (by kernel_rfl) (by intro _ _ _ h; exact h) (Or.inl ⟨by rfl, ?_⟩) (by assumption) ?_
          rotate_left
          · (intro w hSw; (try dsimp only at hSw); go_simp; all_goals with_reducible rfl)
          (try simp only [Act.put, List.setIfInBounds_toArray, List.set_cons_zero, List.set_cons_succ])
          refine wpAnyH_take (i := 3) (v := ?_) (by rw [List.getElem?_toArray]; rfl) (by kernel_rfl) (by kernel_rfl) (by kernel_rfl) (by intro _ _ _ h; exact h) (Or.inl ⟨by rfl, ?_⟩) (by assumption) ?_
          rotate_left
          · (intro w hSw; (try dsimp only at hSw); go_simp; all_goals with_reducible rfl)
          (try simp only [Act.put, List.setIfInBounds_toArray, List.set_cons_zero, List.set_cons_succ])
          refine wpAnyH_take (i := 4) (v := ?_) (by rw [List.getElem?_toArray]; rfl) (by kernel_rfl) (by kernel_rfl) (by kernel_rfl) (by intro _ _ _ h; exact h) (Or.inl ⟨by rfl, ?_⟩) (by assumption) ?_
          rotate_left
          · (intro w hSw; (try dsimp only at hSw); go_simp; all_goals with_reducible rfl)
          (try simp only [Act.put, List.setIfInBounds_toArray, List.set_cons_zero, List.set_cons_succ])
          refine wpAnyH_take (i := 5) (v := ?_) (by rw [List.getElem?_toArray]; rfl) (by kernel_rfl) (by kernel_rfl) (by kernel_rfl) (by intro _ _ _ h; exact h) (Or.inl ⟨by rfl, ?_⟩) (by assumption) ?_
          rotate_left
          · (intro w hSw; (try dsimp only at hSw); go_simp; all_goals with_reducible rfl)
          (try simp only [Act.put, List.setIfInBounds_toArray, List.set_cons_zero, List.set_cons_succ])
          refine wpAnyH_take (i := 6) (v := ?_) (by rw [List.getElem?_toArray]; rfl) (by kernel_rfl) (by kernel_rfl) (by kernel_rfl) (by intro _ _ _ h; exact h) (Or.inl ⟨by rfl, ?_⟩) (by assumption) ?_
          rotate_left
          · (intro w hSw; (try dsimp only at hSw); go_simp; all_goals with_reducible rfl)
          (try simp only [Act.put, List.setIfInBounds_toArray, List.set_cons_zero, List.set_cons_succ])
          refine wpAnyH_take (i := 7) (v := ?_) (by rw [List.getElem?_toArray]; rfl) (by kernel_rfl) (by kernel_rfl) (by kernel_rfl) (by intro _ _ _ h; exact h) (Or.inl ⟨by rfl, ?_⟩) (by assumption) ?_
          rotate_left
          · (intro w hSw; (try dsimp only at hSw); go_simp; all_goals with_reducible rfl)
          (try simp only [Act.put, List.setIfInBounds_toArray, List.set_cons_zero, List.set_cons_succ])
          refine wpAnyH_take (i := 8) (v := ?_) (by rw [List.getElem?_toArray]; rfl) (by kernel_rfl) (by kernel_rfl) (by kernel_rfl) (by intro _ _ _ h; exact h) (Or.inl ⟨by rfl, ?_⟩) (by assumption) ?_
          rotate_left
          · (intro w hSw; (try dsimp only at hSw); go_simp; all_goals with_reducible rfl)
          (try simp only [Act.put, List.setIfInBounds_toArray, List.set_cons_zero, List.set_cons_succ])
          refine wpAnyH_take (i := 9) (v := ?_) (by rw [List.getElem?_toArray]; rfl) (by kernel_rfl) (by kernel_rfl) (by kernel_rfl) (by intro _ _ _ h; exact h) (Or.inl ⟨by rfl, ?_⟩) (by assumption) ?_
          rotate_left
          · (intro w hSw; (try dsimp only at hSw); go_simp; all_goals with_reducible rfl)
          (try simp only [Act.put, List.setIfInBounds_toArray, List.set_cons_zero, List.set_cons_succ])
          (try simp only [hc])
          refine wpAnyH_take (i := 10) (v := ?_) (by rw [List.getElem?_toArray]; rfl) (by kernel_rfl) (by kernel_rfl) (by kernel_rfl) (by intro _ _ _ h; exact h) (Or.inl ⟨by rfl, ?_⟩) (by assumption) ?_
          rotate_left
          · (intro w hSw; (try dsimp only at hSw); go_simp; all_goals with_reducible rfl)
          (try simp only [Act.put, List.setIfInBounds_toArray, List.set_cons_zero, List.set_cons_succ])
          refine wpAnyH_done (by kernel_rfl) ?_ _
          go_wp2_with fail
          go_ret
          exact ⟨ret_bool (rkB_no (rkA_no HF.out HLT.out)).symm, B3.trans (XB.mono B3.size)⟩
    · have hkn : k = n := by omega
      subst hkn
      have hli : ¬ (k : Int) < (k : Int) := by omega
      go_wp2_with fail
      go_ret
      exact ⟨ret_bool (rkB_yes hA hn).symm, B⟩
set_option maxHeartbeats 2000000 in
theorem implReadsOk_zero (a a' : Option Addr) (c c' : Nat) (M : Nat → LkT) (R : Nat → RgT) (w : World) :
    Calls Try.prog 14 #[.slice a 0 c, .slice a' 0 c'] w fun e w' => e = .returned (.bool (rkB M R 0 0)) ∧ Below w.heap.size w w' := by
  have B := Below.nw w (.cells #[.bool false, .int .i64 0, .nilFunc] 75)
  go_enter Try.func14, Try.ntmps14
  go_upto_region 4 with fail
  generalize w.alloc (.cells #[.bool false, .int .i64 0, .nilFunc] 75) = v at *
  go_wp2_with fail
  go_loopw [21] (fun i wr => i = .int .i64 0 ∧ v = wr) (fun i _ => 0)
  case atStart => exact ⟨rfl, by first | rfl | trivial⟩
  case round =>
    obtain ⟨rfl, rfl⟩ := hrel
    go_wp2_with fail
    go_ret
    exact ⟨rfl, B⟩
set_option maxHeartbeats 2000000 in
theorem implReadsOk_ne (a a' : Option Addr) (n m c c' : Nat) (M : Nat → LkT) (R : Nat → RgT) (w : World) (hn : n ≤ maxLen) (hm : m ≤ maxLen) (h : n ≠ m ∨ 200 < n) :
    Calls Try.prog 14 #[.slice a n c, .slice a' m c'] w fun e w' => e = .returned (.bool (rkB M R n m)) ∧ Below w.heap.size w w' := by
  unfold maxLen at hn hm
  by_cases h2 : 200 < n
  · have hb : rkB M R n m = false := by rw [rkB, show decide (n ≤ 200) = false from decide_eq_false (by omega)]; simp
    have h3 : (200 : Int) < (n : Int) := by omega
    rw [hb]
    go_enter Try.func14, Try.ntmps14
    go_wp2_with fail
    go_ret
    exact ⟨rfl, Below.refl _ _⟩
  · have e : n ≠ m := by omega
    have hb : rkB M R n m = false := by rw [rkB, show (n == m) = false from beq_false_of_ne e]; simp
    have h3 : ((m : Int) != (n : Int)) = true := bne_iff_ne.2 (fun q => e (by omega))
    have h4 : ¬ (200 : Int) < (n : Int) := by omega
    rw [hb]
    go_enter Try.func14, Try.ntmps14
    go_wp2_with fail
    go_ret
    exact ⟨rfl, Below.refl _ _⟩
theorem implReadsOk_any (a a' : Option Addr) (n m c c' : Nat) (M : Nat → LkT) (R : Nat → RgT) (w : World) (hn : n ≤ maxLen) (hm : m ≤ maxLen) (h : SrcC w a (n * 3) (MFLook M)) (h' : SrcC w a' (m * 3) (MFReading R)) :
    Calls Try.prog 14 #[.slice a n c, .slice a' m c'] w fun e w' => e = .returned (.bool (rkB M R n m)) ∧ Below w.heap.size w w' := by
  by_cases e : n = m ∧ n ≤ 200
  · obtain ⟨e1, e2⟩ := e
    subst e1
    by_cases h0 : n = 0
    · subst h0; exact implReadsOk_zero a a' c c' M R w
    · rcases h with h | ⟨b, off, rfl, hp⟩
      · exact absurd h (by omega)
      · rcases h' with h | ⟨b', off', rfl, hp'⟩
        · exact absurd h (by omega)
        · exact implReadsOk_some b off c b' off' c' n M R w e2 hp hp'
  · exact implReadsOk_ne a a' n m c c' M R w hn hm (by omega)
end Go.Proofs.Ytdllkfllnljaaaa
