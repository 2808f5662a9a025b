/- Rounds of a plan in the program. -/
import Derived.Test.YtcakhfobkbgfoaaDoorB142
import Derived.OwnWalk
import Derived.Deep.RegionHeld3
import Derived.WalkKit
import Derived.WalkSpells
import Derived.WalkLawsBesides
import Derived.Deep.RegionHeld
namespace Go.Proofs.YtcakhfobkbgfoaaDoor
open Go.RowKit
set_option linter.unusedVariables false
theorem below_none {v w1 : World} (G : v.grownBy w1 none) : Below v.heap.size v w1 := ⟨G.os, G.tape, G.output, G.size, fun k hk => G.block k hk (by simp)⟩
/- Rounds of a plan, from one on. -/
set_option maxRecDepth 100000 in
set_option maxHeartbeats 8000000 in
theorem rounds_any (s g : Int) (a : Option Addr) (n c : Nat) (M : Nat → SlT) (k : Int) (m : Nat) (w : World) (hp : plB s g M n = true) (hk : kOk s g M n k) (h1m : 1 ≤ m) (h2m : m ≤ 2) (hs : SrcC w a (n * 2) (MFSlot M)) :
    Calls Tryd.prog 57 #[.agg #[.int .i64 s, .int .i64 g, .slice a n c], .int .i64 k, .int .i64 (m : Int)] w fun e w' => ∃ b1 b2, w.heap.size ≤ b1 ∧ w.heap.size ≤ b2 ∧ e = .returned (.slice (some ⟨b2, 0, none⟩) m m) ∧ Rd w' b1 b2 m n (RF s g M n k) ∧ Below w.heap.size w w' := by
  obtain ⟨p1, p2, p3, p4⟩ := plB_t hp
  obtain ⟨i1, hi1, hz11, hz12, hz13⟩ := infoV13
  obtain ⟨i2, hi2, hz21, hz22, hz23⟩ := infoS13
  have B := Below.nw w (.cells #[.int .i64 s, .int .i64 g, .slice a n c] 30)
  have N := Tx3.new w (.int .i64 s) (.int .i64 g) (.slice a n c) 30
  have hv0 : w.heap.size < (w.alloc (.cells #[.int .i64 s, .int .i64 g, .slice a n c] 30)).heap.size := N.1
  obtain ⟨b, off, rfl, hf⟩ : ∃ b off, a = some ⟨b, off, none⟩ ∧ Cs w b off (n * 2) (MFSlot M) := by
    rcases hs with q | q
    · exact absurd q (by omega)
    · exact q
  have HF : Hid (Cs w b off (n * 2) (MFSlot M)) := hf
  have hmn : m * n ≤ 24 := Nat.mul_le_mul h2m p3.2
  have hcn : (m : Int) * (n : Int) = ((m * n : Nat) : Int) := by simp
  have hwm : IntKind.i64.wrap ((m : Int) * (n : Int)) = ((m * n : Nat) : Int) := by rw [hcn]; exact Go.IntWalk.i64_in _ ⟨by omega, by omega⟩
  have CR := fun w' h => planRound_any s g (some ⟨b, off, none⟩) n c M w' hp h
  have hr := rn_bd hp
  obtain ⟨k1, k2, k3, k4⟩ := id hk
  have hw1 : IntKind.i64.wrap (k * upS g M n) = k * upS g M n := Go.IntWalk.i64_in _ ⟨by omega, by omega⟩
  have hx1 : wrap64 (k * upS g M n) = k * upS g M n := Go.IntWalk.wrap64_in _ ⟨by omega, by omega⟩
  have hA0 : rAt s g M n k 0 = s + k * upS g M n := by unfold rAt; simp
  have hw2 : IntKind.i64.wrap (s + k * upS g M n) = rAt s g M n k 0 := by rw [hA0]; exact Go.IntWalk.i64_in _ ⟨by omega, by omega⟩
  have hx2 : wrap64 (s + k * upS g M n) = rAt s g M n k 0 := by rw [hA0]; exact Go.IntWalk.wrap64_in _ ⟨by omega, by omega⟩
  have HP : Hid (plB s g M n = true) := hp
  have HP2 : Hid (0 ≤ g ∧ g ≤ 100000) := p2
  have HP4 : Hid (slA M n = true) := p4
  have HK : Hid (kOk s g M n k) := hk
  have hn1 : 1 ≤ n := p3.1
  have hn2 : n ≤ 12 := p3.2
  clear hf hs hp p1 p2 p3 p4 k1 k2 k3 k4 hk hA0 hr hcn
  go_enter Tryd.func57, Tryd.ntmps57
  go_upto_region 1 with fail
  generalize w.alloc (.cells #[.int .i64 s, .int .i64 g, .slice (some ⟨b, off, none⟩) n c] 30) = v at *
  obtain ⟨n0, n1, n2, n3, n4, n5, n6⟩ := id N
  go_upto_region 3 with (at_make; refine wpList_make_full _ rfl _ _ 102 rfl v.heap.size 25 i1 (.agg #[.int .i64 0, .int .i64 0]) 2 Tryd.underlying102 hi1 hz11 hz12 .i64 .i64 _ _ (m * n) rfl rfl (by first | rfl | exact hwm) (by first | rfl | exact hwm) (by rw [hz13]; omega) (by unfold maxLen; omega) (Nat.le_refl _) ?_; intro w1 O1 G1)
  clear n0 n1 n2 n3 n4 n5 n6
  obtain ⟨-, -, -, R1⟩ := ownF_row (RF s g M n k) O1
  have E1 := below_none G1
  replace B := B.trans (E1.mono B.size)
  replace N := N.below E1
  have hb1 := R1.lt
  generalize v.heap.size = b1 at *
  clear O1 G1 E1
  obtain ⟨n0, n1, n2, n3, n4, n5, n6⟩ := id N
  go_upto_region 4 with (at_make; refine wpList_make_full _ rfl _ _ 103 rfl w1.heap.size 102 i2 (.slice none 0 0) 1 Tryd.underlying103 hi2 hz21 hz22 .i64 .i64 _ _ m rfl rfl rfl rfl (by rw [hz23]; omega) (by unfold maxLen; omega) (Nat.le_refl _) ?_; intro v3 O2 G2)
  clear n0 n1 n2 n3 n4 n5 n6
  obtain ⟨-, -, -, R2⟩ := ownF_row (RG b1 n) O2
  have E1 := below_none G2
  replace B := B.trans (E1.mono B.size)
  replace N := N.below E1
  replace R1 := R1.below' E1
  have hb2 := R2.lt
  generalize w1.heap.size = b2 at *
  rw [Nat.mul_one] at R2
  clear O2 G2 E1 hi1 hz11 hz12 hz13 hi2 hz21 hz22 hz23
  have SK : Hid (∀ w', Below v3.heap.size v3 w' → ((fun w' => w'.cell? ⟨w.heap.size, 0, none⟩ = some (.int .i64 s) ∧ w'.cell? ⟨w.heap.size, 1, none⟩ = some (.int .i64 g) ∧ w'.cell? ⟨w.heap.size, 2, none⟩ = some (.slice (some ⟨b, off, none⟩) n c))) w') := fun w' hw => ⟨(N.below hw).2.1, (N.below hw).2.2.1, (N.below hw).2.2.2.1⟩
  go_upto_region 4 with fail
  refine wp_region_held_drew (S := (fun w' => w'.cell? ⟨w.heap.size, 0, none⟩ = some (.int .i64 s) ∧ w'.cell? ⟨w.heap.size, 1, none⟩ = some (.int .i64 g) ∧ w'.cell? ⟨w.heap.size, 2, none⟩ = some (.slice (some ⟨b, off, none⟩) n c))) (by kernel_rfl) ?_ (fun hHeld => ?_)
  · first | exact SK.out _ XB | exact SK.out _ (Below.drew (Below.refl _ _))
  have XB : Below v3.heap.size v3 v3.drew := Below.drew (Below.refl _ _)
  generalize v3.drew = vx at *
  refine wpAnyH_take (i := 0) (v := ?_) (by rw [List.getElem?_toArray]; rfl) (by kernel_rfl) (by kernel_rfl) (by kernel_rfl) (by intro _ _ _ h; exact h) (Or.inl ⟨by rfl, ?_⟩) (by assumption) ?_
  rotate_left
  · (intro w hSw; (try dsimp only at hSw); go_simp; all_goals with_reducible rfl)
  (try simp only [Act.put, List.setIfInBounds_toArray, List.set_cons_zero, List.set_cons_succ])
  refine wpAnyH_take (i := 1) (v := ?_) (by rw [List.getElem?_toArray]; rfl) (by kernel_rfl) (by kernel_rfl) (by kernel_rfl) (by intro _ _ _ h; exact h) (Or.inl ⟨by rfl, ?_⟩) (by assumption) ?_
  rotate_left
  · (intro w hSw; (try dsimp only at hSw); go_simp; all_goals with_reducible rfl)
  (try simp only [Act.put, List.setIfInBounds_toArray, List.set_cons_zero, List.set_cons_succ])
  refine wpAnyH_take (i := 2) (v := ?_) (by rw [List.getElem?_toArray]; rfl) (by kernel_rfl) (by kernel_rfl) (by kernel_rfl) (by intro _ _ _ h; exact h) (Or.inl ⟨by rfl, ?_⟩) (by assumption) ?_
  rotate_left
  · (intro w hSw; (try dsimp only at hSw); go_simp; all_goals with_reducible rfl)
  (try simp only [Act.put, List.setIfInBounds_toArray, List.set_cons_zero, List.set_cons_succ])
  refine wpAnyH_take (i := 3) (v := ?_) (by rw [List.getElem?_toArray]; rfl) (by kernel_rfl) (by kernel_rfl) (by kernel_rfl) (by intro _ _ _ h; exact h) (Or.inl ⟨by rfl, ?_⟩) (by assumption) ?_
  rotate_left
  · (intro w hSw; (try dsimp only at hSw); go_simp; all_goals with_reducible rfl)
  (try simp only [Act.put, List.setIfInBounds_toArray, List.set_cons_zero, List.set_cons_succ])
  refine wpAnyH_ready (rs := [4]) (by kernel_rfl) (by simp) ?_
  refine AllReadyH.cons (by rw [List.getElem?_toArray]; rfl) (fun K hK => ?_) AllReadyH.nil
  go_simp
  refine (CR vx (.inr ⟨b, off, rfl, HF.out.below (B.trans (XB.mono B.size)) HF.out.1⟩)).mono ?_; rintro ee vx ⟨rfl, hbl⟩; (replace XB := XB.trans (hbl.mono XB.size)); (clear hbl)
  (try go_wp2_with fail)
  refine hK.out _ _ ?_ (fun hHeld => ?_)
  · first | exact SK.out _ XB | exact SK.out _ (Below.drew (Below.refl _ _))
  clear hK K
  (try simp only [Act.put, List.setIfInBounds_toArray, List.set_cons_zero, List.set_cons_succ])
  refine wpAnyH_take (i := 5) (v := ?_) (by rw [List.getElem?_toArray]; rfl) (by kernel_rfl) (by kernel_rfl) (by kernel_rfl) (by intro _ _ _ h; exact h) (Or.inl ⟨by rfl, ?_⟩) (by assumption) ?_
  rotate_left
  · (intro w hSw; (try dsimp only at hSw); go_simp; all_goals with_reducible rfl)
  (try simp only [Act.put, List.setIfInBounds_toArray, List.set_cons_zero, List.set_cons_succ])
  (try simp only [hw1, hx1])
  refine wpAnyH_take (i := 6) (v := ?_) (by rw [List.getElem?_toArray]; rfl) (by kernel_rfl) (by kernel_rfl) (by kernel_rfl) (by intro _ _ _ h; exact h) (Or.inl ⟨by rfl, ?_⟩) (by assumption) ?_
  rotate_left
  · (intro w hSw; (try dsimp only at hSw); go_simp; all_goals with_reducible rfl)
  (try simp only [Act.put, List.setIfInBounds_toArray, List.set_cons_zero, List.set_cons_succ])
  (try simp only [hw2, hx2])
  refine wpAnyH_take (i := 7) (v := ?_) (by rw [List.getElem?_toArray]; rfl) (by kernel_rfl) (by kernel_rfl) (by kernel_rfl) (by intro _ _ _ h; exact h) (Or.inl ⟨by rfl, ?_⟩) (by assumption) ?_
  rotate_left
  · (intro w hSw; (try dsimp only at hSw); go_simp; all_goals with_reducible rfl)
  (try simp only [Act.put, List.setIfInBounds_toArray, List.set_cons_zero, List.set_cons_succ])
  refine wpAnyH_done (by kernel_rfl) ?_ _
  replace B := B.trans (XB.mono B.size)
  replace N := N.below XB
  replace R1 := R1.below' XB
  replace R2 := R2.below' XB
  clear XB SK CR hw1 hx1 hw2 hx2 hb2
  generalize vx = v4 at *
  have HB12 : Hid (w.heap.size < b1 ∧ b1 < b2) := ⟨hv0, hb1⟩
  clear hv0 hb1 hwm
  go_wp2_with fail
  go_loopw [10, 33] (fun s10 i wr => ∃ (j : Nat), j ≤ m ∧ i = .int .i64 j ∧ s10 = .int .i64 (rAt s g M n k j) ∧ RowF wr b1 25 (m * n * 2) (j * n * 2) (RF s g M n k) ∧ RowF wr b2 102 m j (RG b1 n) ∧ Tx3 wr w.heap.size (.int .i64 s) (.int .i64 g) (.slice (some ⟨b, off, none⟩) n c) ∧ Below w.heap.size w wr) (fun _ i _ => m - (intOf i).toNat)
  case atStart => exact ⟨0, Nat.zero_le _, rfl, rfl, by rw [Nat.zero_mul, Nat.zero_mul]; exact R1, R2, N, B⟩
  case round =>
    clear R1 R2 N B
    obtain ⟨j, hj, rfl, rfl, R1, R2, N, B⟩ := hrel
    by_cases hlt : j < m
    · have HLT : Hid (j < m) := hlt
      have hli : (j : Int) < (m : Int) := by omega
      have hjm : (j + 1) * n ≤ m * n := Nat.mul_le_mul_right n hlt
      have hjx : (j + 1) * n = j * n + n := Nat.succ_mul j n
      have hc1 : (j : Int) * (n : Int) = ((j * n : Nat) : Int) := by simp
      have hc2 : ((j : Int) + 1) * (n : Int) = ((j * n + n : Nat) : Int) := by rw [← hjx]; simp
      have hwj : IntKind.i64.wrap ((j : Int) * (n : Int)) = ((j * n : Nat) : Int) := by rw [hc1]; exact Go.IntWalk.i64_in _ ⟨by omega, by omega⟩
      have hwa : IntKind.i64.wrap ((j : Int) + 1) = (j : Int) + 1 := Go.IntWalk.i64_in _ ⟨by omega, by omega⟩
      have hwk : IntKind.i64.wrap (((j : Int) + 1) * (n : Int)) = ((j * n + n : Nat) : Int) := by rw [hc2]; exact Go.IntWalk.i64_in _ ⟨by omega, by omega⟩
      have hbd := rAt_bd HP.out HK.out (show j ≤ 2 by omega)
      have hRF : Hid (∀ i, i < n → RF s g M n k (j * n * 2 + i * 2) = .int .i64 (rAt s g M n k j + upS g M i) ∧ RF s g M n k (j * n * 2 + i * 2 + 1) = .int .i64 (rAt s g M n k j + upS g M i + (M i).2)) := fun i hi => by rw [← Nat.add_mul]; exact RF_at s g M n k hi
      have hNX : Hid (rAt s g M n k j + upS g M n = rAt s g M n k (j + 1)) := rAt_next s g M n k j
      have hRG : Hid (RG b1 n j = .slice (some ⟨b1, j * n * 2, none⟩) n n) := rfl
      have hE1 : Hid ((j + 1) * n * 2 = j * n * 2 + n * 2) := by rw [Hid, hjx, Nat.add_mul]
      rw [hjx] at hjm
      generalize RF s g M n k = F at *
      generalize j * n = jn at *
      generalize m * n = mn at *
      clear hc1 hc2 hjx
      generalize rAt s g M n k j = aj at *
      obtain ⟨n0, n1, n2, n3, n4, n5, n6⟩ := id N
      go_wp2_with fail
      clear n0 n1 n2 n3 n4 n5 n6
      go_loopw [10, 12, 51] (fun s10 s12 i wr => ∃ (q : Nat), q ≤ n ∧ i = .int .i64 q ∧ s10 = .int .i64 (aj + upS g M q) ∧ s12 = .slice (some ⟨b1, jn * 2, none⟩) q n ∧ RowF wr b1 25 (mn * 2) (jn * 2 + q * 2) F ∧ RowF wr b2 102 m j (RG b1 n) ∧ Tx3 wr w.heap.size (.int .i64 s) (.int .i64 g) (.slice (some ⟨b, off, none⟩) n c) ∧ Below w.heap.size w wr) (fun _ _ i _ => n - (intOf i).toNat)
      case atStart => exact ⟨0, Nat.zero_le _, rfl, by rw [upS, Int.add_zero], by simp, R1, R2, N, B⟩
      case round =>
        clear R1 R2 N B hwj hwa hwk hli hlt
        obtain ⟨q, hq, rfl, rfl, rfl, R1, R2, N, B⟩ := hrel
        by_cases hlt : q < n
        · obtain ⟨o, l, hM⟩ := tupSlot M q
          obtain ⟨c1, c2⟩ := (HF.out.below B HF.out.1).elSlot hlt hM
          have hb := upS_bd HP2.out HP4.out q (by omega)
          have hl := (slB_t (slA_at HP4.out hlt)).2
          have hg := HP2.out
          rw [hM] at hl
          obtain ⟨f1, f2⟩ := hRF.out q hlt
          rw [hM] at f2
          have HU : Hid (aj + upS g M (q + 1) = aj + upS g M q + (l + g)) := by rw [Hid, upS_next hM]; omega
          have HQ : Hid (q < n) := hlt
          have hli : (q : Int) < (n : Int) := by omega
          have hw1 : IntKind.i64.wrap (l + g) = l + g := Go.IntWalk.i64_in _ ⟨by omega, by omega⟩
          have hw2 : IntKind.i64.wrap (aj + upS g M q + (l + g)) = aj + upS g M q + (l + g) := Go.IntWalk.i64_in _ ⟨by omega, by omega⟩
          have hw3 : IntKind.i64.wrap (aj + upS g M q + l) = aj + upS g M q + l := Go.IntWalk.i64_in _ ⟨by omega, by omega⟩
          have hfit : jn * 2 + q * 2 + 2 ≤ mn * 2 := by omega
          clear hM hb hl hg
          generalize aj + upS g M q = u at *
          have A1 := Below.nw wr (.cells #[.int .i64 o, .int .i64 l] 42)
          have X := Bx2.new wr (.int .i64 o) (.int .i64 l) 42
          have hz1 := R1.lt
          replace B := B.trans (A1.mono B.size)
          replace N := N.below A1
          replace R1 := R1.below' A1
          replace R2 := R2.below' A1
          clear A1
          go_upto_region 12 with fail
          generalize wr.alloc (.cells #[.int .i64 o, .int .i64 l] 42) = v5 at *
          generalize wr.heap.size = jb at *
          clear c1 c2
          obtain ⟨x0, x1, x2, x3, x4⟩ := id X
          go_upto_region 13 with (at_builtin; refine put_at rfl _ _ rfl b1 (jn * 2) q n (mn * 2) (jn * 2 + q * 2) F rfl rfl R1 rfl hfit HQ.out f1 f2 ?_; intro w9 R9 T9)
          have hb12 := HB12.out
          replace X := X.but T9 (by omega)
          replace N := N.but T9 (by omega)
          have R2' : RowF w9 b2 102 m j (RG b1 n) := by
            obtain ⟨ff, hr, hg⟩ := R2
            exact ⟨ff, hr.of_block (T9.2.2.2.2 b2 hr.lt (by omega)), hg⟩
          replace B := B.trans (T9.below (by omega) (Nat.le_of_lt (by have := N.1; omega)))
          clear R1 R2 T9 hb12 x0 x1 x2 x3 x4 hz1
          obtain ⟨x0, x1, x2, x3, x4⟩ := id X
          obtain ⟨n0, n1, n2, n3, n4, n5, n6⟩ := id N
          go_wp2_with fail
          clear n0 n1 n2 n3 n4 n5 n6
          go_roundw
          case rel => exact ⟨_, _, _, _, ⟨q + 1, HQ.out, rfl, rfl, rfl, (by rw [Nat.add_mul]; exact R9)⟩, by rw [HU.out], rfl, rfl, by simp⟩
          case measure => have hlt' := HQ.out; simp [intOf]; omega
        · have hkn : q = n := by omega
          subst hkn
          have hli : ¬ (q : Int) < (q : Int) := by omega
          have hjm' := HLT.out
          have hli2 : (j : Int) < (m : Int) := by omega
          obtain ⟨⟨y, y1⟩, y2⟩ := R2.facts j HLT.out
          have hb12 := HB12.out
          have R2' := R2.put (j + 1) rfl hRG.out
          have R1' := R1.setO (show b2 ≠ b1 by omega) j (.slice (some ⟨b1, jn * 2, none⟩) q q)
          have N' := N.setO (show b2 ≠ w.heap.size by omega) j (.slice (some ⟨b1, jn * 2, none⟩) q q)
          have B' := B.setCell (p := ⟨b2, j, none⟩) (show w.heap.size ≤ b2 by omega) (.slice (some ⟨b1, jn * 2, none⟩) q q)
          clear R1 R2 N B hb12
          go_wp2_with fail
          go_roundw
          case rel => exact ⟨j + 1, hjm', by go_num, by rw [← hNX.out], by rw [hE1.out]; exact R1', R2', N', B'⟩
          case measure => simp [intOf]; omega
    · have hkn : j = m := by omega
      subst hkn
      have hli : ¬ (j : Int) < (j : Int) := by omega
      have hb12 := HB12.out
      have hD : Rd wr b1 b2 j n (RF s g M n k) := ⟨R2.cs (Nat.le_refl _), R1.cs (Nat.le_refl _)⟩
      clear R1 R2 N
      go_wp2_with fail
      go_ret
      exact ⟨b1, by omega, b2, by omega, rfl, hD, B⟩
end Go.Proofs.YtcakhfobkbgfoaaDoor
