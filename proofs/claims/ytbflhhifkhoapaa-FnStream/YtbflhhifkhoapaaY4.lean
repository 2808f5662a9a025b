/- The walk of FnOneBit. -/
import Derived.Test.YtbflhhifkhoapaaY3
import Derived.Test.YtbflhhifkhoapaaX4
import Derived.Test.YtbflhhifkhoapaaX5
import Derived.Test.YtbflhhifkhoapaaH11
import Derived.Test.YtbflhhifkhoapaaG15
import Derived.Deep.RegionHeld3
import Derived.Deep.DeepCutAuto
import Derived.WalkKit
import Derived.WalkSpells
import Derived.WalkLawsBesides
import Derived.Deep.QuietTactic
import Derived.BigQuiet
namespace Go.Proofs.Ytbflhhifkhoapaa
open Go.RowKit
set_option linter.unusedVariables false
theorem packB_rng (k fr tu no lo hi sl : Int) (s : ByteArray) (hk : 1 ≤ k ∧ k ≤ 3) : ∀ z ∈ packB k fr tu no lo hi sl s, 0 ≤ z ∧ z ≤ 255 := by
  intro z hz
  unfold packB at hz
  rw [List.cons_append, List.cons_append] at hz
  rcases List.mem_cons.1 hz with rfl | hz
  · omega
  rcases List.mem_append.1 hz with hz | hz
  · rcases List.mem_append.1 hz with hz | hz
    · exact putL_rng _ z hz
    · split at hz
      · rcases List.mem_append.1 hz with hz | hz
        · rcases List.mem_append.1 hz with hz | hz
          · exact putL_rng _ z hz
          · exact putL_rng _ z hz
        · exact strL_rng _ z hz
      · rcases List.mem_append.1 hz with hz | hz
        · exact putL_rng _ z hz
        · exact putL_rng _ z hz
  · split at hz
    · rcases List.mem_append.1 hz with hz | hz
      · exact putL_rng _ z hz
      · exact putL_rng _ z hz
    · simp at hz
theorem packL_rng (k fr tu no lo hi sl : Int) (s : ByteArray) (hk : 1 ≤ k ∧ k ≤ 3) : ∀ z ∈ packL k fr tu no lo hi sl s, 0 ≤ z ∧ z ≤ 255 := by
  intro z hz
  rcases List.mem_append.1 hz with hz | hz
  · exact packB_rng k fr tu no lo hi sl s hk z hz
  · simp at hz
    rw [hz]
    exact chk_bd (rng_at (packB_rng k fr tu no lo hi sl s hk))
theorem packL_two (k fr tu no lo hi sl : Int) (s : ByteArray) : 2 ≤ (packL k fr tu no lo hi sl s).length := by
  simp [packL, addChk, packB]
  omega
theorem packR_ok {k fr tu no lo hi sl : Int} {s : ByteArray} (h : msgB k fr tu no lo hi sl s = true) : packR k fr tu no lo hi sl s = packL k fr tu no lo hi sl s := by rw [packR, h]; rfl
theorem xor_ne : ∀ z : Fin 256, ∀ t : Fin 8, 0 ≤ bits .xor .u8 (z.val : Int) (2 ^ t.val % 256 : Int) ∧ bits .xor .u8 (z.val : Int) (2 ^ t.val % 256 : Int) ≤ 255 ∧ bits .xor .u8 (z.val : Int) (2 ^ t.val % 256 : Int) ≠ (z.val : Int) := by decide +kernel
theorem xor_neI (z : Int) (t : Nat) (h0 : 0 ≤ z) (h1 : z ≤ 255) (ht : t < 8) : 0 ≤ bits .xor .u8 z (2 ^ t % 256 : Int) ∧ bits .xor .u8 z (2 ^ t % 256 : Int) ≤ 255 ∧ bits .xor .u8 z (2 ^ t % 256 : Int) ≠ z := by
  obtain ⟨m, rfl⟩ := Int.eq_ofNat_of_zero_le h0
  exact xor_ne ⟨m, by omega⟩ ⟨t, ht⟩
theorem shl_run (m : Nat) (h : m < 8) (w : World) : Sem.run Try.prog (Op.shift BinOp.shl IntKind.u8 1 IntKind.i64 (m : Int)) w = .ok (.int .u8 (2 ^ m : Int)) w := by
  have e : m = 0 ∨ m = 1 ∨ m = 2 ∨ m = 3 ∨ m = 4 ∨ m = 5 ∨ m = 6 ∨ m = 7 := by omega
  rcases e with rfl | rfl | rfl | rfl | rfl | rfl | rfl | rfl <;> rfl
theorem unp_turned {L : List Int} {i : Nat} {z' : Int} (h2 : 2 ≤ L.length) (hr : ∀ z ∈ L, 0 ≤ z ∧ z ≤ 255) (hc : chk (fun i => L.getD i 0) (L.length - 1) = L.getD (L.length - 1) 0) (hi : i < L.length) (hz : 0 ≤ z' ∧ z' ≤ 255) (hne : z' ≠ L.getD i 0) :
    unp (fun j => if j = i then z' else L.getD j 0) L.length = (2, zT) := by
  have hra := rng_at hr
  rw [unp, if_neg (by omega), if_pos]
  intro e
  by_cases hl : i = L.length - 1
  · subst hl
    have c1 : chk (fun j => if j = L.length - 1 then z' else L.getD j 0) (L.length - 1) = chk (fun i => L.getD i 0) (L.length - 1) := chk_congr fun j hj => by
      have : ¬ j = L.length - 1 := by omega
      simp [this]
    rw [c1, hc] at e
    simp at e
    exact hne (by rw [List.getD_eq_getElem?_getD]; exact e.symm)
  · have hlt : i < L.length - 1 := by omega
    have ne : ¬ L.length - 1 = i := by omega
    rw [if_neg ne, ← hc] at e
    refine chk_one (f := fun j => if j = i then z' else L.getD j 0) (g := fun i => L.getD i 0) (n := L.length - 1) (i := i) (fun j hj => ?_) (fun j hj => hra j (by omega)) hlt (by simp only [if_true]; exact hne) (fun j hj hji => by simp [hji]) e
    by_cases hji : j = i
    · simp only [hji, if_true]; exact hz
    · simp only [if_neg hji]; exact hra j (by omega)
theorem own_set_byts {w : World} {base g c : Nat} {T : TypeId} {L : List Int} (h : w.ownsRow base T 1 (.slice (some ⟨g, 0, none⟩) L.length c) L.length (bts L)) (i : Nat) (z : Int) (hi : i < L.length) :
    (∃ u, w.cell? ⟨g, i, none⟩ = some u) ∧ w.cell? ⟨g, i, none⟩ = some (.int .u8 (L.getD i 0)) ∧ w.frozen? ⟨g, i, none⟩ = false ∧ g < w.heap.size ∧ base ≤ g ∧ L.length ≤ c ∧ c ≤ maxLen ∧ Byts (w.setCell ⟨g, i, none⟩ (.int .u8 z)) g 0 L.length (fun j => if j = i then z else L.getD j 0) := by
  obtain ⟨h1, h2, gg, hr, -⟩ := ownB_rowB h
  obtain ⟨a, c', e, hc, hcm, hs⟩ := ownB_src h
  simp at e
  obtain ⟨rfl, rfl⟩ := e
  rcases hs with q | ⟨b', off', q1, q2⟩
  · omega
  simp at q1
  obtain ⟨rfl, rfl⟩ := q1
  have cell : ∀ j, j < L.length → w.cell? ⟨g, j, none⟩ = some (.int .u8 (L.getD j 0)) := fun j hj => by
    have := q2.2 j hj
    rw [Nat.zero_add] at this
    exact this
  refine ⟨⟨_, cell i hi⟩, cell i hi, hr.frozen _, hr.lt, h1, hc, hcm, by simpa using hr.lt, fun j hj => ?_⟩
  rw [Nat.zero_add]
  by_cases hji : j = i
  · subst hji
    simp only [if_true]
    exact World.cell?_setCell_same _ _ _ (cell j hi)
  · rw [cell_set_off _ _ _ _ _ (fun q => hji q.symm)]
    simp only [if_neg hji]
    exact cell j hj
set_option maxHeartbeats 4000000 in
theorem walkOneBit (a : Option Addr) (n c : Nat) (w : World) (hcode : CodeB w w.heap.size a n) :
    Calls Try.prog 4 #[.slice a n c] w fun e w' => e = .returned (.bool true) ∧ Below w.heap.size w w' := by
  by_cases hbig : (1048576 : Int) < (n : Int)
  · go_enter Try.func4, Try.ntmps4
    go_wp2_with (go_at_call 8; refine (big_any _ _ _ _).mono ?_; rintro e w' ⟨rfl, rfl⟩)
    go_ret
    exact ⟨rfl, Below.refl _ _⟩
  have hd : decide ((1048576 : Int) < (n : Int)) = false := by simp; omega
  have hn : n ≤ 1048576 := by omega
  have HC : Hid (CodeB w w.heap.size a n) := hcode
  clear hcode hbig
  go_enter Try.func4, Try.ntmps4
  go_wp2_with (go_at_call 8; refine (big_any _ _ _ _).mono ?_; rintro e w' ⟨rfl, rfl⟩)
  refine (DrawPack_any a n c _ hn HC.out).mono ?_
  rintro e w1 ⟨k, fr, tu, no, lo, hi, sl, s, rfl, hs, B1⟩
  have P := Box8.new w1 k fr tu no lo hi sl s 27
  have A := Below.al w1 (.cells #[.int .i64 k, .int .i64 fr, .int .i64 tu, .int .i64 no, .int .i64 lo, .int .i64 hi, .int .i64 sl, .string s] 27)
  have B2 := B1.trans (A.mono B1.size)
  clear B1 A hd
  go_wp2_with fail
  refine (implPack_any k fr tu no lo hi sl s _ (by omega)).mono ?_
  rintro e w2 ⟨v, rfl, O, hb⟩
  replace P := P.below hb
  have B3 := B2.trans (hb.mono B2.size)
  clear hb
  obtain ⟨a0, a1, a2, a3, a4, a5, a6, a7, a8⟩ := P
  go_wp2_with fail
  refine (specMsgOk_any k fr tu no lo hi sl s _ (by omega)).mono ?_
  rintro e w3 ⟨rfl, hb⟩
  have B4 := B3.trans (hb.mono B3.size)
  have O3 := ownB_below O hb
  have s1 : w.heap.size ≤ (w1.alloc (.cells #[.int .i64 k, .int .i64 fr, .int .i64 tu, .int .i64 no, .int .i64 lo, .int .i64 hi, .int .i64 sl, .string s] 27)).heap.size := B2.size
  clear hb a0 a1 a2 a3 a4 a5 a6 a7 a8 O B3 B2
  cases hm : msgB k fr tu no lo hi sl s
  · go_wp2_with fail
    go_ret
    exact ⟨rfl, B4⟩
  have hk := msgB_from hm
  have hl := packR_short k fr tu no lo hi sl s
  rw [packR_ok hm] at O3 hl
  have HR : Hid (∀ z ∈ packL k fr tu no lo hi sl s, 0 ≤ z ∧ z ≤ 255) := packL_rng k fr tu no lo hi sl s (by omega)
  have hl2 := packL_two k fr tu no lo hi sl s
  have HK : Hid (chk (fun i => (packL k fr tu no lo hi sl s).getD i 0) ((packL k fr tu no lo hi sl s).length - 1) = (packL k fr tu no lo hi sl s).getD ((packL k fr tu no lo hi sl s).length - 1) 0) := last_chk _
  generalize packL k fr tu no lo hi sl s = L at *
  obtain ⟨g, cp, rfl⟩ := ownB_some O3 (by intro e; rw [e] at hl2; simp at hl2)
  have HO : Hid (w3.ownsRow (w1.alloc (.cells #[.int .i64 k, .int .i64 fr, .int .i64 tu, .int .i64 no, .int .i64 lo, .int .i64 hi, .int .i64 sl, .string s] 27)).heap.size 5 1 (.slice (some ⟨g, 0, none⟩) L.length cp) L.length (bts L)) := O3
  generalize (w1.alloc (.cells #[.int .i64 k, .int .i64 fr, .int .i64 tu, .int .i64 no, .int .i64 lo, .int .i64 hi, .int .i64 sl, .string s] 27)).heap.size = base at *
  clear O3 hk
  have hne : ((L.length : Int) == 0) = false := by rw [beq_eq_false_iff_ne]; omega
  have h2' : ¬ (L.length : Int) < 2 := by omega
  go_wp2_with fail
  refine (at_any a n c 1 w.heap.size _ hn (by omega) (HC.out.below B4)).mono ?_
  rintro e w' ⟨y, rfl, y0, y1, rfl⟩
  have I0 := Int.emod_nonneg (y * 7) (b := (L.length : Int)) (by omega)
  have I1 := Int.emod_lt_of_pos (y * 7) (b := (L.length : Int)) (by omega)
  go_upto_region 10 with fail
  generalize (y * 7) % (L.length : Int) = I at *
  obtain ⟨i, rfl⟩ := Int.eq_ofNat_of_zero_le I0
  have hi' : i < L.length := by omega
  obtain ⟨-, c0, f0, g0, gb, hc0, hcm0, -⟩ := own_set_byts HO.out i 0 hi'
  have HZ : Hid (0 ≤ L.getD i 0 ∧ L.getD i 0 ≤ 255) := rng_at HR.out i hi'
  have HBY := fun z => (own_set_byts HO.out i z hi').2.2.2.2.2.2.2
  have HU := fun z' h1 h2 => unp_turned (L := L) (i := i) (z' := z') hl2 HR.out HK.out hi' h1 h2
  generalize hz : L.getD i 0 = z at *
  clear I0 I1

  refine wp_region_held_drew (S := (fun _ => True)) (by kernel_rfl) ?_ (fun hHeld => ?_)
  · trivial
  refine wpAnyH_take (i := 0) (v := ?_) (by rw [List.getElem?_toArray]; rfl) (by kernel_rfl) (by kernel_rfl) (by kernel_rfl) (by intro _ _ _ h; exact h) (Or.inl ⟨by rfl, ?_⟩) (by assumption) ?_
  rotate_left
  · (intro w hSw; (try dsimp only at hSw); go_simp; all_goals with_reducible rfl)
  (try simp only [Act.put, List.setIfInBounds_toArray, List.set_cons_zero, List.set_cons_succ])
  refine wpAnyH_take (i := 1) (v := ?_) (by rw [List.getElem?_toArray]; rfl) (by kernel_rfl) (by kernel_rfl) (by kernel_rfl) (by intro _ _ _ h; exact h) (Or.inl ⟨by rfl, ?_⟩) (by assumption) ?_
  rotate_left
  · (intro w hSw; (try dsimp only at hSw); go_simp; all_goals with_reducible rfl)
  (try simp only [Act.put, List.setIfInBounds_toArray, List.set_cons_zero, List.set_cons_succ])
  refine wpAnyH_take (i := 2) (v := ?_) (by rw [List.getElem?_toArray]; rfl) (by kernel_rfl) (by kernel_rfl) (by kernel_rfl) (by intro _ _ _ h; exact h) (Or.inl ⟨by rfl, ?_⟩) (by assumption) ?_
  rotate_left
  · (intro w hSw; (try dsimp only at hSw); go_simp; all_goals with_reducible rfl)
  (try simp only [Act.put, List.setIfInBounds_toArray, List.set_cons_zero, List.set_cons_succ])
  refine wpAnyH_take (i := 3) (v := ?_) (by rw [List.getElem?_toArray]; rfl) (by kernel_rfl) (by kernel_rfl) (by kernel_rfl) (by intro _ _ _ h; exact h) (Or.inl ⟨by rfl, ?_⟩) (by assumption) ?_
  rotate_left
  · (intro w hSw; (try dsimp only at hSw); go_simp; all_goals with_reducible rfl)
  (try simp only [Act.put, List.setIfInBounds_toArray, List.set_cons_zero, List.set_cons_succ])
  refine wpAnyH_take (i := 4) (v := ?_) (by rw [List.getElem?_toArray]; rfl) (by kernel_rfl) (by kernel_rfl) (by kernel_rfl) (by intro _ _ _ h; exact h) (Or.inl ⟨by rfl, ?_⟩) (by assumption) ?_
  rotate_left
  · (intro w hSw; (try dsimp only at hSw); go_simp; all_goals with_reducible rfl)
  (try simp only [Act.put, List.setIfInBounds_toArray, List.set_cons_zero, List.set_cons_succ])
  refine wpAnyH_take (i := 6) (v := ?_) (by rw [List.getElem?_toArray]; rfl) (by kernel_rfl) (by kernel_rfl) (by kernel_rfl) (by intro _ _ _ h; exact h) (Or.inl ⟨by rfl, ?_⟩) (by assumption) ?_
  rotate_left
  · (intro w hSw; (try dsimp only at hSw); go_simp; all_goals with_reducible rfl)
  (try simp only [Act.put, List.setIfInBounds_toArray, List.set_cons_zero, List.set_cons_succ])
  refine wpAnyH_ready (rs := [5, 7]) (by kernel_rfl) (by simp) ?_
  refine (AllReadyH.cons (by rw [List.getElem?_toArray]; rfl) (fun K hK => ?_) (AllReadyH.cons (by rw [List.getElem?_toArray]; rfl) (fun K hK => ?_) AllReadyH.nil))
  · go_simp
    refine hK.out _ _ ?_ (fun hHeld => ?_)
    · trivial
    clear hK K
    (try simp only [Act.put, List.setIfInBounds_toArray, List.set_cons_zero, List.set_cons_succ])
    refine wpAnyH_ready (rs := [7]) (by kernel_rfl) (by simp) ?_
    refine (AllReadyH.cons (by rw [List.getElem?_toArray]; rfl) (fun K hK => ?_) AllReadyH.nil)
    go_simp
    refine (at_any a n c 2 w.heap.size _ hn (by omega) (HC.out.below (Below.drew B4))).mono ?_; rintro e w' ⟨t, rfl, t0, t1, rfl⟩; (have hmod : t.tmod 8 = t % 8 := Int.tmod_eq_emod_of_nonneg t0); (have m0 := Int.emod_nonneg t (b := 8) (by omega)); (have m1 := Int.emod_lt_of_pos t (b := 8) (by omega)); (obtain ⟨m, hm8⟩ := Int.eq_ofNat_of_zero_le m0); rw [hm8] at hmod m1; (have hsh := shl_run m (by omega)); (have hX := xor_neI z m HZ.out.1 HZ.out.2 (by omega)); clear m0 hm8
    (try go_wp2_with fail)
    refine hK.out _ _ ?_ (fun hHeld => ?_)
    · trivial
    clear hK K
    (try simp only [Act.put, List.setIfInBounds_toArray, List.set_cons_zero, List.set_cons_succ])
    refine wpAnyH_take (i := 8) (v := ?_) (by rw [List.getElem?_toArray]; rfl) (by kernel_rfl) (by kernel_rfl) (by kernel_rfl) (by intro _ _ _ h; exact h) (Or.inl ⟨by rfl, ?_⟩) (by assumption) ?_
    rotate_left
    · (intro w hSw; (try dsimp only at hSw); go_simp; all_goals with_reducible rfl)
    (try simp only [Act.put, List.setIfInBounds_toArray, List.set_cons_zero, List.set_cons_succ])
    refine wpAnyH_take (i := 9) (v := ?_) (by rw [List.getElem?_toArray]; rfl) (by kernel_rfl) (by kernel_rfl) (by kernel_rfl) (by intro _ _ _ h; exact h) (Or.inl ⟨by rfl, ?_⟩) (by assumption) ?_
    rotate_left
    · (intro w hSw; (try dsimp only at hSw); go_simp; all_goals with_reducible rfl)
    (try simp only [Act.put, List.setIfInBounds_toArray, List.set_cons_zero, List.set_cons_succ])
    refine wpAnyH_take (i := 10) (v := ?_) (by rw [List.getElem?_toArray]; rfl) (by kernel_rfl) (by kernel_rfl) (by kernel_rfl) (by intro _ _ _ h; exact h) (Or.inl ⟨by rfl, ?_⟩) (by assumption) ?_
    rotate_left
    · (intro w hSw; (try dsimp only at hSw); go_simp; all_goals with_reducible rfl)
    (try simp only [Act.put, List.setIfInBounds_toArray, List.set_cons_zero, List.set_cons_succ])
    refine wpAnyH_take (i := 11) (v := ?_) (by rw [List.getElem?_toArray]; rfl) (by kernel_rfl) (by kernel_rfl) (by kernel_rfl) (by intro _ _ _ h; exact h) (Or.inl ⟨by rfl, ?_⟩) (by assumption) ?_
    rotate_left
    · (intro w hSw; (try dsimp only at hSw); go_simp; all_goals with_reducible rfl)
    (try simp only [Act.put, List.setIfInBounds_toArray, List.set_cons_zero, List.set_cons_succ])
    refine wpAnyH_ready (rs := [12]) (by kernel_rfl) (by simp) ?_
    refine (AllReadyH.cons (by rw [List.getElem?_toArray]; rfl) (fun K hK => ?_) AllReadyH.nil)
    go_simp
    refine hK.out _ _ ?_ (fun hHeld => ?_)
    · trivial
    clear hK K
    (try simp only [Act.put, List.setIfInBounds_toArray, List.set_cons_zero, List.set_cons_succ])
    refine wpAnyH_done (by kernel_rfl) ?_ _
    go_wp2_with fail
    have HB5 := HBY (bits .xor .u8 z (2 ^ m % 256))
    have HU5 := HU (bits .xor .u8 z (2 ^ m % 256)) ⟨hX.1, hX.2.1⟩ hX.2.2
    have HR5 : ∀ j, j < L.length → 0 ≤ (fun j => if j = i then bits .xor .u8 z (2 ^ m % 256) else L.getD j 0) j ∧ (fun j => if j = i then bits .xor .u8 z (2 ^ m % 256) else L.getD j 0) j ≤ 255 := fun j hj => by
      by_cases hji : j = i
      · simp only [hji, if_true]; exact ⟨hX.1, hX.2.1⟩
      · simp only [if_neg hji]; exact rng_at HR.out j hj
    have CU := implUnpack_any (some ⟨g, 0, none⟩) L.length cp (fun j => if j = i then bits .xor .u8 z (2 ^ m % 256) else L.getD j 0) (w3.setCell ⟨g, i, none⟩ (.int .u8 (bits .xor .u8 z (2 ^ m % 256)))).drew (by omega) hc0 hcm0 (.inr ⟨g, 0, rfl, HB5⟩) HR5
    rw [HU5] at CU
    have B5 : Below w.heap.size w (w3.setCell ⟨g, i, none⟩ (.int .u8 (bits .xor .u8 z (2 ^ m % 256)))).drew := Below.drew (B4.setCell (by simp; omega) _)
    clear HB5 HU5 HR5 HBY HU
    generalize (w3.setCell ⟨g, i, none⟩ (.int .u8 (bits .xor .u8 z (2 ^ m % 256)))).drew = w4 at *
    refine CU.mono ?_
    rintro e w5 ⟨rfl, hb⟩
    have B6 := B5.trans (hb.mono B5.size)
    have B7 := B6.alloc B6.size (.cells #[.int .i64 0, .int .i64 0, .int .i64 0, .int .i64 0, .int .i64 0, .int .i64 0, .int .i64 0, .string ⟨#[]⟩] 27)
    simp only [uv, mv, zT]
    clear CU hb B5
    go_wp2_with fail
    go_ret
    exact ⟨rfl, B7⟩
  · go_simp
    refine (at_any a n c 2 w.heap.size _ hn (by omega) (HC.out.below (Below.drew B4))).mono ?_; rintro e w' ⟨t, rfl, t0, t1, rfl⟩; (have hmod : t.tmod 8 = t % 8 := Int.tmod_eq_emod_of_nonneg t0); (have m0 := Int.emod_nonneg t (b := 8) (by omega)); (have m1 := Int.emod_lt_of_pos t (b := 8) (by omega)); (obtain ⟨m, hm8⟩ := Int.eq_ofNat_of_zero_le m0); rw [hm8] at hmod m1; (have hsh := shl_run m (by omega)); (have hX := xor_neI z m HZ.out.1 HZ.out.2 (by omega)); clear m0 hm8
    (try go_wp2_with fail)
    refine hK.out _ _ ?_ (fun hHeld => ?_)
    · trivial
    clear hK K
    (try simp only [Act.put, List.setIfInBounds_toArray, List.set_cons_zero, List.set_cons_succ])
    refine wpAnyH_take (i := 8) (v := ?_) (by rw [List.getElem?_toArray]; rfl) (by kernel_rfl) (by kernel_rfl) (by kernel_rfl) (by intro _ _ _ h; exact h) (Or.inl ⟨by rfl, ?_⟩) (by assumption) ?_
    rotate_left
    · (intro w hSw; (try dsimp only at hSw); go_simp; all_goals with_reducible rfl)
    (try simp only [Act.put, List.setIfInBounds_toArray, List.set_cons_zero, List.set_cons_succ])
    refine wpAnyH_take (i := 9) (v := ?_) (by rw [List.getElem?_toArray]; rfl) (by kernel_rfl) (by kernel_rfl) (by kernel_rfl) (by intro _ _ _ h; exact h) (Or.inl ⟨by rfl, ?_⟩) (by assumption) ?_
    rotate_left
    · (intro w hSw; (try dsimp only at hSw); go_simp; all_goals with_reducible rfl)
    (try simp only [Act.put, List.setIfInBounds_toArray, List.set_cons_zero, List.set_cons_succ])
    refine wpAnyH_ready (rs := [5]) (by kernel_rfl) (by simp) ?_
    refine (AllReadyH.cons (by rw [List.getElem?_toArray]; rfl) (fun K hK => ?_) AllReadyH.nil)
    go_simp
    refine hK.out _ _ ?_ (fun hHeld => ?_)
    · trivial
    clear hK K
    (try simp only [Act.put, List.setIfInBounds_toArray, List.set_cons_zero, List.set_cons_succ])
    refine wpAnyH_take (i := 10) (v := ?_) (by rw [List.getElem?_toArray]; rfl) (by kernel_rfl) (by kernel_rfl) (by kernel_rfl) (by intro _ _ _ h; exact h) (Or.inl ⟨by rfl, ?_⟩) (by assumption) ?_
    rotate_left
    · (intro w hSw; (try dsimp only at hSw); go_simp; all_goals with_reducible rfl)
    (try simp only [Act.put, List.setIfInBounds_toArray, List.set_cons_zero, List.set_cons_succ])
    refine wpAnyH_take (i := 11) (v := ?_) (by rw [List.getElem?_toArray]; rfl) (by kernel_rfl) (by kernel_rfl) (by kernel_rfl) (by intro _ _ _ h; exact h) (Or.inl ⟨by rfl, ?_⟩) (by assumption) ?_
    rotate_left
    · (intro w hSw; (try dsimp only at hSw); go_simp; all_goals with_reducible rfl)
    (try simp only [Act.put, List.setIfInBounds_toArray, List.set_cons_zero, List.set_cons_succ])
    refine wpAnyH_ready (rs := [12]) (by kernel_rfl) (by simp) ?_
    refine (AllReadyH.cons (by rw [List.getElem?_toArray]; rfl) (fun K hK => ?_) AllReadyH.nil)
    go_simp
    refine hK.out _ _ ?_ (fun hHeld => ?_)
    · trivial
    clear hK K
    (try simp only [Act.put, List.setIfInBounds_toArray, List.set_cons_zero, List.set_cons_succ])
    refine wpAnyH_done (by kernel_rfl) ?_ _
    go_wp2_with fail
    have HB5 := HBY (bits .xor .u8 z (2 ^ m % 256))
    have HU5 := HU (bits .xor .u8 z (2 ^ m % 256)) ⟨hX.1, hX.2.1⟩ hX.2.2
    have HR5 : ∀ j, j < L.length → 0 ≤ (fun j => if j = i then bits .xor .u8 z (2 ^ m % 256) else L.getD j 0) j ∧ (fun j => if j = i then bits .xor .u8 z (2 ^ m % 256) else L.getD j 0) j ≤ 255 := fun j hj => by
      by_cases hji : j = i
      · simp only [hji, if_true]; exact ⟨hX.1, hX.2.1⟩
      · simp only [if_neg hji]; exact rng_at HR.out j hj
    have CU := implUnpack_any (some ⟨g, 0, none⟩) L.length cp (fun j => if j = i then bits .xor .u8 z (2 ^ m % 256) else L.getD j 0) (w3.setCell ⟨g, i, none⟩ (.int .u8 (bits .xor .u8 z (2 ^ m % 256)))).drew (by omega) hc0 hcm0 (.inr ⟨g, 0, rfl, HB5⟩) HR5
    rw [HU5] at CU
    have B5 : Below w.heap.size w (w3.setCell ⟨g, i, none⟩ (.int .u8 (bits .xor .u8 z (2 ^ m % 256)))).drew := Below.drew (B4.setCell (by simp; omega) _)
    clear HB5 HU5 HR5 HBY HU
    generalize (w3.setCell ⟨g, i, none⟩ (.int .u8 (bits .xor .u8 z (2 ^ m % 256)))).drew = w4 at *
    refine CU.mono ?_
    rintro e w5 ⟨rfl, hb⟩
    have B6 := B5.trans (hb.mono B5.size)
    have B7 := B6.alloc B6.size (.cells #[.int .i64 0, .int .i64 0, .int .i64 0, .int .i64 0, .int .i64 0, .int .i64 0, .int .i64 0, .string ⟨#[]⟩] 27)
    simp only [uv, mv, zT]
    clear CU hb B5
    go_wp2_with fail
    go_ret
    exact ⟨rfl, B7⟩
end Go.Proofs.Ytbflhhifkhoapaa
