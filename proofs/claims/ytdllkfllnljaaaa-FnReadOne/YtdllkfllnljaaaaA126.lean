/- ReadsOk in the specification. -/
import Derived.Test.YtdllkfllnljaaaaA121
import Derived.Test.YtdllkfllnljaaaaA123
import Derived.Test.YtdllkfllnljaaaaA124
import Derived.Deep.RegionHeld3
import Derived.WalkKit
import Derived.WalkSpells
import Derived.WalkLawsBesides
import Derived.Deep.RegionHeld
namespace Go.Proofs.Ytdllkfllnljaaaa
open Go.RowKit
set_option linter.unusedVariables false
theorem tail0 {G F : World → Prop} {R : Prop} (h1 : (∀ vx, F vx → G vx) → R) (h2 : ∀ vx, F vx → G vx) : R := h1 h2
theorem tail1 {G F : Nat → World → Prop} {R : Prop} (h1 : (∀ k vx, F k vx → G k vx) → R) (h2 : ∀ k vx, F k vx → G k vx) : R := h1 h2
theorem tail2 {G F : Nat → Nat → World → Prop} {R : Prop} (h1 : (∀ k0 k1 vx, F k0 k1 vx → G k0 k1 vx) → R) (h2 : ∀ k0 k1 vx, F k0 k1 vx → G k0 k1 vx) : R := h1 h2
/- When the readings of looks are right: one reading behind H (is there one ahead) and L (the one ahead); the row. -/
def rk1 (H : Bool) (L : Int) (k : Bool) (lo hi x : Int) (d : Bool) (c : Int) : Bool :=
  match (k && !okI lo hi), (c == 2), (c == 0) with
  | true, _, _ => false
  | false, true, _ => !(k || H || (x != 0) || d)
  | false, false, false => false
  | false, false, true => match k, d with
    | false, d => d && H && (x == L)
    | true, true => H && (x == L) && !decide (x ≤ hi)
    | true, false => holdsI lo hi x && !(H && decide (x < L))
def rkS (R : Nat → RgT) : Nat → Bool × Int
  | 0 => (false, 0)
  | j + 1 => match ((R j).2.2 == 2) with | true => rkS R j | false => (true, (R j).1)
def rkA (M : Nat → LkT) (R : Nat → RgT) : Nat → Bool
  | 0 => true
  | j + 1 => rkA M R j && rk1 (rkS R j).1 (rkS R j).2 (M j).1 (M j).2.1 (M j).2.2 (R j).1 (R j).2.1 (R j).2.2
def rkB (M : Nat → LkT) (R : Nat → RgT) (n m : Nat) : Bool := (n == m) && (decide (n ≤ 200) && rkA M R n)
theorem rkA_no {M : Nat → LkT} {R : Nat → RgT} {k n : Nat} (h : rkA M R (k + 1) = false) (hk : k < n) : rkA M R n = false := by
  induction n with
  | zero => omega
  | succ n ih =>
    by_cases e : k = n
    · subst e; exact h
    · rw [rkA, ih (by omega)]; rfl
theorem rkA_step {M : Nat → LkT} {R : Nat → RgT} {k : Nat} {H : Bool} {L : Int} {y : Bool} {lo hi x : Int} {d : Bool} {c : Int} (hS : rkS R k = (H, L)) (hM : M k = (y, lo, hi)) (hR : R k = (x, d, c)) (h : rkA M R k = true) : rkA M R (k + 1) = rk1 H L y lo hi x d c := by
  rw [rkA, h, hS, hM, hR]; rfl
theorem rkS_un {R : Nat → RgT} {k : Nat} {x : Int} {d : Bool} {c : Int} (hR : R k = (x, d, c)) (h : (c == 2) = true) : rkS R (k + 1) = rkS R k := by rw [rkS, hR]; show (match (c == 2) with | true => _ | false => _) = _; rw [h]
theorem rkS_we {R : Nat → RgT} {k : Nat} {x : Int} {d : Bool} {c : Int} (hR : R k = (x, d, c)) (h : (c == 2) = false) : rkS R (k + 1) = (true, x) := by rw [rkS, hR]; show (match (c == 2) with | true => _ | false => _) = _; rw [h]
theorem rkB_no {M : Nat → LkT} {R : Nat → RgT} {n : Nat} (h : rkA M R n = false) : rkB M R n n = false := by rw [rkB, h]; simp
theorem rkB_yes {M : Nat → LkT} {R : Nat → RgT} {n : Nat} (h : rkA M R n = true) (h2 : n ≤ 200) : rkB M R n n = true := by rw [rkB, h]; simp [h2]

set_option maxRecDepth 100000 in
set_option maxHeartbeats 16000000 in
theorem specReadsOk_some (b off c b' off' c' n : Nat) (M : Nat → LkT) (R : Nat → RgT) (w : World) (hn : n ≤ 200) (hf : Cs w b off (n * 3) (MFLook M)) (hg : Cs w b' off' (n * 3) (MFReading R)) :
    Calls Try.prog 35 #[.slice (some ⟨b, off, none⟩) n c, .slice (some ⟨b', off', none⟩) n c'] w fun e w' => e = .returned (.bool (rkB M R n n)) ∧ Below w.heap.size w w' := by
  have hni : (n : Int) ≤ 200 := by omega
  go_enter Try.func35, Try.ntmps35
  go_wp2_with fail
  go_loopw [5, 6, 7] (fun s5 s6 i wr => ∃ (k : Nat) (H : Bool) (L : Int), k ≤ n ∧ i = .int .i64 k ∧ s5 = .bool H ∧ s6 = .int .i64 L ∧ rkS R k = (H, L) ∧ rkA M R k = true ∧ Below w.heap.size w wr) (fun _ _ i _ => n - (intOf i).toNat)
  case atStart => exact ⟨0, false, 0, Nat.zero_le _, rfl, rfl, rfl, rfl, rfl, Below.refl _ _⟩
  case round =>
    obtain ⟨k, H, L, hk, rfl, rfl, rfl, hS, hA, hB⟩ := hrel
    by_cases hlt : k < n
    · obtain ⟨y, lo, hi, hM⟩ := tupLook M k
      obtain ⟨x, d, c0, hR⟩ := tupReading R k
      have SK : Hid (∀ w', Below wr.heap.size wr w' → ((fun w' => w'.cell? ⟨b, off + k * 3, none⟩ = some (.bool y) ∧ w'.cell? ⟨b, off + k * 3 + 1, none⟩ = some (.int .i64 lo) ∧ w'.cell? ⟨b, off + k * 3 + 2, none⟩ = some (.int .i64 hi) ∧ w'.cell? ⟨b', off' + k * 3, none⟩ = some (.int .i64 x) ∧ w'.cell? ⟨b', off' + k * 3 + 1, none⟩ = some (.bool d) ∧ w'.cell? ⟨b', off' + k * 3 + 2, none⟩ = some (.int .i64 c0))) w') := fun w' hw => by
        obtain ⟨a1, a2, a3⟩ := ((hf.below hB hf.1).below hw (Nat.lt_of_lt_of_le hf.1 hB.size)).elLook hlt hM
        obtain ⟨a4, a5, a6⟩ := ((hg.below hB hg.1).below hw (Nat.lt_of_lt_of_le hg.1 hB.size)).elReading hlt hR
        exact ⟨a1, a2, a3, a4, a5, a6⟩
      have HA : Hid (rkA M R (k + 1) = rk1 H L y lo hi x d c0) := rkA_step hS hM hR hA
      have HLT : Hid (k < n) := hlt
      have HR : Hid (R k = (x, d, c0)) := hR
      have HS : Hid (rkS R k = (H, L)) := hS
      have hli : (k : Int) < (n : Int) := by omega
      clear hM hR hS hA hf hg
      go_upto_region 7 with fail
      go_cut [8, 9] from 21 to 109 (fun s8 s9 wx => ∃ k0 k1 : Nat, s8 = .pointer (some ⟨k0, 0, none⟩) ∧ s9 = .pointer (some ⟨k1, 0, none⟩) ∧ Tx3 wx k0 (.bool y) (.int .i64 lo) (.int .i64 hi) ∧ Tx3 wx k1 (.int .i64 x) (.bool d) (.int .i64 c0) ∧ Below w.heap.size w wx)
      case first => as_aux_lemma =>
        refine wp_region_held_drew (S := (fun w' => w'.cell? ⟨b, off + k * 3, none⟩ = some (.bool y) ∧ w'.cell? ⟨b, off + k * 3 + 1, none⟩ = some (.int .i64 lo) ∧ w'.cell? ⟨b, off + k * 3 + 2, none⟩ = some (.int .i64 hi) ∧ w'.cell? ⟨b', off' + k * 3, none⟩ = some (.int .i64 x) ∧ w'.cell? ⟨b', off' + k * 3 + 1, none⟩ = some (.bool d) ∧ w'.cell? ⟨b', off' + k * 3 + 2, none⟩ = some (.int .i64 c0))) (by kernel_rfl) ?_ (fun hHeld => ?_)
        · first | exact SK.out _ XB | exact SK.out _ (Below.drew (Below.refl _ _))
        have XB : Below wr.heap.size wr wr.drew := Below.drew (Below.refl _ _)
        generalize wr.drew = vx at *
        refine wpAnyH_take (i := 0) (v := ?_) (by rw [List.getElem?_toArray]; rfl) (by kernel_rfl) (by kernel_rfl) (by kernel_rfl) (by intro _ _ _ h; exact h) (Or.inl ⟨by rfl, ?_⟩) (by assumption) ?_
        rotate_left
        · (intro w hSw; (try dsimp only at hSw); go_simp; all_goals with_reducible rfl)
        (try simp only [Act.put, List.setIfInBounds_toArray, List.set_cons_zero, List.set_cons_succ])
        refine wpAnyH_take (i := 1) (v := ?_) (by rw [List.getElem?_toArray]; rfl) (by kernel_rfl) (by kernel_rfl) (by kernel_rfl) (by intro _ _ _ h; exact h) (Or.inl ⟨by rfl, ?_⟩) (by assumption) ?_
        rotate_left
        · (intro w hSw; (try dsimp only at hSw); go_simp; all_goals with_reducible rfl)
        (try simp only [Act.put, List.setIfInBounds_toArray, List.set_cons_zero, List.set_cons_succ])
        refine wpAnyH_take (i := 2) (v := ?_) (by rw [List.getElem?_toArray]; rfl) (by kernel_rfl) (by kernel_rfl) (by kernel_rfl) (by intro _ _ _ h; exact h) (Or.inl ⟨by rfl, ?_⟩) (by assumption) ?_
        rotate_left
        · (intro w hSw; (try dsimp only at hSw); go_simp; all_goals with_reducible rfl)
        (try simp only [Act.put, List.setIfInBounds_toArray, List.set_cons_zero, List.set_cons_succ])
        refine wpAnyH_take (i := 3) (v := ?_) (by rw [List.getElem?_toArray]; rfl) (by kernel_rfl) (by kernel_rfl) (by kernel_rfl) (by intro _ _ _ h; exact h) (Or.inl ⟨by rfl, ?_⟩) (by assumption) ?_
        rotate_left
        · (intro w hSw; (try dsimp only at hSw); go_simp; all_goals with_reducible rfl)
        (try simp only [Act.put, List.setIfInBounds_toArray, List.set_cons_zero, List.set_cons_succ])
        refine wpAnyH_take (i := 4) (v := ?_) (by rw [List.getElem?_toArray]; rfl) (by kernel_rfl) (by kernel_rfl) (by kernel_rfl) (by intro _ _ _ h; exact h) (Or.inl ⟨by rfl, ?_⟩) (by assumption) ?_
        rotate_left
        · (intro w hSw; (try dsimp only at hSw); go_simp; all_goals with_reducible rfl)
        (try simp only [Act.put, List.setIfInBounds_toArray, List.set_cons_zero, List.set_cons_succ])
        refine wpAnyH_take (i := 5) (v := ?_) (by rw [List.getElem?_toArray]; rfl) (by kernel_rfl) (by kernel_rfl) (by kernel_rfl) (by intro _ _ _ h; exact h) (Or.inl ⟨by rfl, ?_⟩) (by assumption) ?_
        rotate_left
        · (intro w hSw; (try dsimp only at hSw); go_simp; all_goals with_reducible rfl)
        (try simp only [Act.put, List.setIfInBounds_toArray, List.set_cons_zero, List.set_cons_succ])
        refine wpAnyH_take (i := 6) (v := ?_) (by rw [List.getElem?_toArray]; rfl) (by kernel_rfl) (by kernel_rfl) (by kernel_rfl) (by intro _ _ _ h; exact h) (Or.inl ⟨by rfl, ?_⟩) (by assumption) ?_
        rotate_left
        · (intro w hSw; (try dsimp only at hSw); go_simp; all_goals with_reducible rfl)
        (try simp only [Act.put, List.setIfInBounds_toArray, List.set_cons_zero, List.set_cons_succ])
        refine wpAnyH_take (i := 7) (v := ?_) (by rw [List.getElem?_toArray]; rfl) (by kernel_rfl) (by kernel_rfl) (by kernel_rfl) (by intro _ _ _ h; exact h) (Or.inl ⟨by rfl, ?_⟩) (by assumption) ?_
        rotate_left
        · (intro w hSw; (try dsimp only at hSw); go_simp; all_goals with_reducible rfl)
        (try simp only [Act.put, List.setIfInBounds_toArray, List.set_cons_zero, List.set_cons_succ])
        apply tail2 (F := (fun k0 k1 vx => wr.heap.size ≤ k0 ∧ wr.heap.size ≤ k1 ∧ k0 ≠ k1 ∧ Tx3 vx k0 (.bool false) (.int .i64 0) (.int .i64 0) ∧ Tx3 vx k1 (.int .i64 0) (.bool false) (.int .i64 0) ∧ Below wr.heap.size wr vx))
        intro T8_9
        apply tail1 (F := (fun k1 vx => wr.heap.size ≤ k1 ∧ Tx3 vx k1 (.int .i64 0) (.bool false) (.int .i64 0) ∧ Below wr.heap.size wr vx))
        intro T9
        apply tail1 (F := (fun k0 vx => wr.heap.size ≤ k0 ∧ Tx3 vx k0 (.bool false) (.int .i64 0) (.int .i64 0) ∧ Below wr.heap.size wr vx))
        intro T8
        refine wpAnyH_ready (rs := [8, 9]) (by kernel_rfl) (by simp) ?_
        refine (AllReadyH.cons (by rw [List.getElem?_toArray]; rfl) (fun K hK => ?_) (AllReadyH.cons (by rw [List.getElem?_toArray]; rfl) (fun K hK => ?_) AllReadyH.nil))
        · go_simp
          (have K0 := Tx3.new vx (.bool false) (.int .i64 0) (.int .i64 0) 32); (have hk0 := XB.size); (have hbl := Below.nw vx (.cells #[.bool false, .int .i64 0, .int .i64 0] 32)); (replace XB := XB.trans (hbl.mono XB.size)); (clear hbl); (generalize vx.heap.size = k0 at *); (generalize vx.alloc (.cells #[.bool false, .int .i64 0, .int .i64 0] 32) = vx at *)
          refine hK.out _ _ ?_ (fun hHeld => ?_)
          · first | exact SK.out _ XB | exact SK.out _ (Below.drew (Below.refl _ _))
          clear hK K
          (try simp only [Act.put, List.setIfInBounds_toArray, List.set_cons_zero, List.set_cons_succ])
          exact T8 _ _ ⟨hk0, K0, XB⟩
        · go_simp
          (have K1 := Tx3.new vx (.int .i64 0) (.bool false) (.int .i64 0) 40); (have hk1 := XB.size); (have hbl := Below.nw vx (.cells #[.int .i64 0, .bool false, .int .i64 0] 40)); (replace XB := XB.trans (hbl.mono XB.size)); (clear hbl); (generalize vx.heap.size = k1 at *); (generalize vx.alloc (.cells #[.int .i64 0, .bool false, .int .i64 0] 40) = vx at *)
          refine hK.out _ _ ?_ (fun hHeld => ?_)
          · first | exact SK.out _ XB | exact SK.out _ (Below.drew (Below.refl _ _))
          clear hK K
          (try simp only [Act.put, List.setIfInBounds_toArray, List.set_cons_zero, List.set_cons_succ])
          exact T9 _ _ ⟨hk1, K1, XB⟩
        intro k0 vx hF
        obtain ⟨hk0, K0, XB⟩ := hF
        have hHeld : ((fun w' => w'.cell? ⟨b, off + k * 3, none⟩ = some (.bool y) ∧ w'.cell? ⟨b, off + k * 3 + 1, none⟩ = some (.int .i64 lo) ∧ w'.cell? ⟨b, off + k * 3 + 2, none⟩ = some (.int .i64 hi) ∧ w'.cell? ⟨b', off' + k * 3, none⟩ = some (.int .i64 x) ∧ w'.cell? ⟨b', off' + k * 3 + 1, none⟩ = some (.bool d) ∧ w'.cell? ⟨b', off' + k * 3 + 2, none⟩ = some (.int .i64 c0))) vx := SK.out _ XB 
        refine wpAnyH_ready (rs := [9]) (by kernel_rfl) (by simp) ?_
        refine (AllReadyH.cons (by rw [List.getElem?_toArray]; rfl) (fun K hK => ?_) AllReadyH.nil)
        · go_simp
          (have K1 := Tx3.new vx (.int .i64 0) (.bool false) (.int .i64 0) 40); (have hk1 := XB.size); (have hbl := Below.nw vx (.cells #[.int .i64 0, .bool false, .int .i64 0] 40)); (have d0 : k0 ≠ vx.heap.size := Nat.ne_of_lt K0.1); (replace K0 := K0.below hbl); (replace XB := XB.trans (hbl.mono XB.size)); (clear hbl); (generalize vx.heap.size = k1 at *); (generalize vx.alloc (.cells #[.int .i64 0, .bool false, .int .i64 0] 40) = vx at *)
          refine hK.out _ _ ?_ (fun hHeld => ?_)
          · first | exact SK.out _ XB | exact SK.out _ (Below.drew (Below.refl _ _))
          clear hK K
          (try simp only [Act.put, List.setIfInBounds_toArray, List.set_cons_zero, List.set_cons_succ])
          exact T8_9 _ _ _ ⟨hk0, hk1, d0, K0, K1, XB⟩
        intro k1 vx hF
        obtain ⟨hk1, K1, XB⟩ := hF
        have hHeld : ((fun w' => w'.cell? ⟨b, off + k * 3, none⟩ = some (.bool y) ∧ w'.cell? ⟨b, off + k * 3 + 1, none⟩ = some (.int .i64 lo) ∧ w'.cell? ⟨b, off + k * 3 + 2, none⟩ = some (.int .i64 hi) ∧ w'.cell? ⟨b', off' + k * 3, none⟩ = some (.int .i64 x) ∧ w'.cell? ⟨b', off' + k * 3 + 1, none⟩ = some (.bool d) ∧ w'.cell? ⟨b', off' + k * 3 + 2, none⟩ = some (.int .i64 c0))) vx := SK.out _ XB 
        refine wpAnyH_ready (rs := [8]) (by kernel_rfl) (by simp) ?_
        refine (AllReadyH.cons (by rw [List.getElem?_toArray]; rfl) (fun K hK => ?_) AllReadyH.nil)
        · go_simp
          (have K0 := Tx3.new vx (.bool false) (.int .i64 0) (.int .i64 0) 32); (have hk0 := XB.size); (have hbl := Below.nw vx (.cells #[.bool false, .int .i64 0, .int .i64 0] 32)); (have d0 : vx.heap.size ≠ k1 := Nat.ne_of_gt K1.1); (replace K1 := K1.below hbl); (replace XB := XB.trans (hbl.mono XB.size)); (clear hbl); (generalize vx.heap.size = k0 at *); (generalize vx.alloc (.cells #[.bool false, .int .i64 0, .int .i64 0] 32) = vx at *)
          refine hK.out _ _ ?_ (fun hHeld => ?_)
          · first | exact SK.out _ XB | exact SK.out _ (Below.drew (Below.refl _ _))
          clear hK K
          (try simp only [Act.put, List.setIfInBounds_toArray, List.set_cons_zero, List.set_cons_succ])
          exact T8_9 _ _ _ ⟨hk0, hk1, d0, K0, K1, XB⟩
        intro k0 k1 vx hF
        obtain ⟨hk0, hk1, d0, K0, K1, XB⟩ := hF
        have hHeld : ((fun w' => w'.cell? ⟨b, off + k * 3, none⟩ = some (.bool y) ∧ w'.cell? ⟨b, off + k * 3 + 1, none⟩ = some (.int .i64 lo) ∧ w'.cell? ⟨b, off + k * 3 + 2, none⟩ = some (.int .i64 hi) ∧ w'.cell? ⟨b', off' + k * 3, none⟩ = some (.int .i64 x) ∧ w'.cell? ⟨b', off' + k * 3 + 1, none⟩ = some (.bool d) ∧ w'.cell? ⟨b', off' + k * 3 + 2, none⟩ = some (.int .i64 c0))) vx := SK.out _ XB 
        (obtain ⟨za0, zb0, zc0, zd0, ze0, zf0, zg0⟩ := id K0)
        (obtain ⟨za1, zb1, zc1, zd1, ze1, zf1, zg1⟩ := id K1)
        refine wpAnyH_ready (rs := [10]) (by kernel_rfl) (by simp) ?_
        refine (AllReadyH.cons (by rw [List.getElem?_toArray]; rfl) (fun K hK => ?_) AllReadyH.nil)
        go_simp
        (clear za0 zb0 zc0 zd0 ze0 zf0 zg0); (clear za1 zb1 zc1 zd1 ze1 zf1 zg1); (replace XB := (((XB.setCell (p := ⟨k0, 0, none⟩) hk0 (.bool y)).setCell (p := ⟨k0, 1, none⟩) hk0 (.int .i64 lo)).setCell (p := ⟨k0, 2, none⟩) hk0 (.int .i64 hi))); (replace K0 := (((K0.set0 (.bool y)).set1 (.int .i64 lo)).set2 (.int .i64 hi))); (replace K1 := (((K1.setO d0 0 (.bool y)).setO d0 1 (.int .i64 lo)).setO d0 2 (.int .i64 hi))); (generalize (((vx.setCell ⟨k0, 0, none⟩ (.bool y)).setCell ⟨k0, 1, none⟩ (.int .i64 lo)).setCell ⟨k0, 2, none⟩ (.int .i64 hi)) = vx at *); (obtain ⟨za0, zb0, zc0, zd0, ze0, zf0, zg0⟩ := id K0); (obtain ⟨za1, zb1, zc1, zd1, ze1, zf1, zg1⟩ := id K1)
        refine hK.out _ _ ?_ (fun hHeld => ?_)
        · first | exact SK.out _ XB | exact SK.out _ (Below.drew (Below.refl _ _))
        clear hK K
        (try simp only [Act.put, List.setIfInBounds_toArray, List.set_cons_zero, List.set_cons_succ])
        refine wpAnyH_ready (rs := [11]) (by kernel_rfl) (by simp) ?_
        refine (AllReadyH.cons (by rw [List.getElem?_toArray]; rfl) (fun K hK => ?_) AllReadyH.nil)
        go_simp
        (clear za0 zb0 zc0 zd0 ze0 zf0 zg0); (clear za1 zb1 zc1 zd1 ze1 zf1 zg1); (replace XB := (((XB.setCell (p := ⟨k1, 0, none⟩) hk1 (.int .i64 x)).setCell (p := ⟨k1, 1, none⟩) hk1 (.bool d)).setCell (p := ⟨k1, 2, none⟩) hk1 (.int .i64 c0))); (replace K1 := (((K1.set0 (.int .i64 x)).set1 (.bool d)).set2 (.int .i64 c0))); (replace K0 := (((K0.setO (Ne.symm d0) 0 (.int .i64 x)).setO (Ne.symm d0) 1 (.bool d)).setO (Ne.symm d0) 2 (.int .i64 c0))); (generalize (((vx.setCell ⟨k1, 0, none⟩ (.int .i64 x)).setCell ⟨k1, 1, none⟩ (.bool d)).setCell ⟨k1, 2, none⟩ (.int .i64 c0)) = vx at *); (obtain ⟨za0, zb0, zc0, zd0, ze0, zf0, zg0⟩ := id K0); (obtain ⟨za1, zb1, zc1, zd1, ze1, zf1, zg1⟩ := id K1)
        refine hK.out _ _ ?_ (fun hHeld => ?_)
        · first | exact SK.out _ XB | exact SK.out _ (Below.drew (Below.refl _ _))
        clear hK K
        (try simp only [Act.put, List.setIfInBounds_toArray, List.set_cons_zero, List.set_cons_succ])
        refine wpAnyH_done (by kernel_rfl) ?_ _
        go_wp2_with fail
        go_meet
        case rel => exact ⟨_, _, rfl, rfl, K0, K1, hB.trans (XB.mono hB.size)⟩
      case rest =>
        obtain ⟨k0, k1, rfl, rfl, K0, K1, B⟩ := hcut
        clear SK hB
        obtain ⟨p0, p1, p2, p3, p4, p5, p6⟩ := id K0
        obtain ⟨q0, q1, q2, q3, q4, q5, q6⟩ := id K1
        cases y
        · cases e2 : (c0 == 2)
          · cases e0 : (c0 == 0)
            · go_wp2_with fail
              go_ret
              exact ⟨ret_bool (rkB_no (rkA_no (HA.out.trans (by unfold rk1; rw [e2, e0]; all_goals rfl)) HLT.out)).symm, B⟩
            · cases d
              · go_wp2_with fail
                go_ret
                exact ⟨ret_bool (rkB_no (rkA_no (HA.out.trans (by unfold rk1; rw [e2, e0]; all_goals rfl)) HLT.out)).symm, B⟩
              · cases H
                · go_wp2_with fail
                  go_ret
                  exact ⟨ret_bool (rkB_no (rkA_no (HA.out.trans (by unfold rk1; rw [e2, e0]; all_goals rfl)) HLT.out)).symm, B⟩
                · cases el : (x == L)
                  · go_wp2_with fail
                    go_ret
                    exact ⟨ret_bool (rkB_no (rkA_no (HA.out.trans (by unfold rk1; rw [e2, e0, el]; all_goals rfl)) HLT.out)).symm, B⟩
                  · go_upto_region 25 with fail
                    refine wp_region_held_drew (S := (fun w' => w'.cell? ⟨k1, 0, none⟩ = some (.int .i64 x))) (by kernel_rfl) ?_ (fun hHeld => ?_)
                    · exact q1
                    refine wpAnyH_take (i := 0) (v := ?_) (by rw [List.getElem?_toArray]; rfl) (by kernel_rfl) (by kernel_rfl) (by kernel_rfl) (by intro _ _ _ h; exact h) (Or.inl ⟨by rfl, ?_⟩) (by assumption) ?_
                    rotate_left
                    · (intro w hSw; (try dsimp only at hSw); go_simp; all_goals with_reducible rfl)
                    (try simp only [Act.put, List.setIfInBounds_toArray, List.set_cons_zero, List.set_cons_succ])
                    refine wpAnyH_take (i := 1) (v := ?_) (by rw [List.getElem?_toArray]; rfl) (by kernel_rfl) (by kernel_rfl) (by kernel_rfl) (by intro _ _ _ h; exact h) (Or.inl ⟨by rfl, ?_⟩) (by assumption) ?_
                    rotate_left
                    · (intro w hSw; (try dsimp only at hSw); go_simp; all_goals with_reducible rfl)
                    (try simp only [Act.put, List.setIfInBounds_toArray, List.set_cons_zero, List.set_cons_succ])
                    refine wpAnyH_take (i := 2) (v := ?_) (by rw [List.getElem?_toArray]; rfl) (by kernel_rfl) (by kernel_rfl) (by kernel_rfl) (by intro _ _ _ h; exact h) (Or.inl ⟨by rfl, ?_⟩) (by assumption) ?_
                    rotate_left
                    · (intro w hSw; (try dsimp only at hSw); go_simp; all_goals with_reducible rfl)
                    (try simp only [Act.put, List.setIfInBounds_toArray, List.set_cons_zero, List.set_cons_succ])
                    refine wpAnyH_take (i := 3) (v := ?_) (by rw [List.getElem?_toArray]; rfl) (by kernel_rfl) (by kernel_rfl) (by kernel_rfl) (by intro _ _ _ h; exact h) (Or.inl ⟨by rfl, ?_⟩) (by assumption) ?_
                    rotate_left
                    · (intro w hSw; (try dsimp only at hSw); go_simp; all_goals with_reducible rfl)
                    (try simp only [Act.put, List.setIfInBounds_toArray, List.set_cons_zero, List.set_cons_succ])
                    refine wpAnyH_done (by kernel_rfl) ?_ _
                    go_wp2_with fail
                    go_roundw
                    case rel => exact ⟨k + 1, true, x, by have := HLT.out; omega, by go_num, rfl, rfl, rkS_we HR.out e2, HA.out.trans (by unfold rk1; rw [e2, e0, el]; all_goals rfl), Below.drew B⟩
                    case measure => have hlt' := HLT.out; simp [intOf]; omega
          · cases H
            · cases ex : (x != 0)
              · cases d
                · go_wp2_with fail
                  go_roundw
                  case rel => exact ⟨k + 1, false, L, by have := HLT.out; omega, by go_num, rfl, rfl, (rkS_un HR.out e2).trans HS.out, HA.out.trans (by unfold rk1; rw [e2, ex]; all_goals rfl), B⟩
                  case measure => have hlt' := HLT.out; simp [intOf]; omega
                · go_wp2_with fail
                  go_ret
                  exact ⟨ret_bool (rkB_no (rkA_no (HA.out.trans (by unfold rk1; rw [e2, ex]; all_goals rfl)) HLT.out)).symm, B⟩
              · go_wp2_with fail
                go_ret
                exact ⟨ret_bool (rkB_no (rkA_no (HA.out.trans (by unfold rk1; rw [e2, ex]; all_goals rfl)) HLT.out)).symm, B⟩
            · go_wp2_with fail
              go_ret
              exact ⟨ret_bool (rkB_no (rkA_no (HA.out.trans (by unfold rk1; rw [e2]; all_goals rfl)) HLT.out)).symm, B⟩
        · cases h2 : (okI lo hi)
          · go_wp2_with fail
            refine (specIvalOk_any lo hi _).mono ?_
            rintro e v3 ⟨rfl, hbl⟩
            rw [h2]
            clear p0 p1 p2 p3 p4 p5 p6 q0 q1 q2 q3 q4 q5 q6
            (replace K0 := K0.below hbl); (replace K1 := K1.below hbl); (replace B := B.trans (hbl.mono B.size)); (clear hbl)
            obtain ⟨p0, p1, p2, p3, p4, p5, p6⟩ := id K0
            obtain ⟨q0, q1, q2, q3, q4, q5, q6⟩ := id K1
            go_wp2_with fail
            go_ret
            exact ⟨ret_bool (rkB_no (rkA_no (HA.out.trans (by unfold rk1; rw [h2]; all_goals rfl)) HLT.out)).symm, B⟩
          · go_wp2_with fail
            refine (specIvalOk_any lo hi _).mono ?_
            rintro e v3 ⟨rfl, hbl⟩
            rw [h2]
            clear p0 p1 p2 p3 p4 p5 p6 q0 q1 q2 q3 q4 q5 q6
            (replace K0 := K0.below hbl); (replace K1 := K1.below hbl); (replace B := B.trans (hbl.mono B.size)); (clear hbl)
            obtain ⟨p0, p1, p2, p3, p4, p5, p6⟩ := id K0
            obtain ⟨q0, q1, q2, q3, q4, q5, q6⟩ := id K1
            cases e2 : (c0 == 2)
            · cases e0 : (c0 == 0)
              · go_wp2_with fail
                go_ret
                exact ⟨ret_bool (rkB_no (rkA_no (HA.out.trans (by unfold rk1; rw [h2, e2, e0]; all_goals rfl)) HLT.out)).symm, B⟩
              · cases d
                · cases eo : (holdsI lo hi x)
                  · go_wp2_with fail
                    refine (specHolds_any lo hi x _).mono ?_
                    rintro e v4 ⟨rfl, hbl⟩
                    rw [eo]
                    clear p0 p1 p2 p3 p4 p5 p6 q0 q1 q2 q3 q4 q5 q6
                    (replace K0 := K0.below hbl); (replace K1 := K1.below hbl); (replace B := B.trans (hbl.mono B.size)); (clear hbl)
                    obtain ⟨p0, p1, p2, p3, p4, p5, p6⟩ := id K0
                    obtain ⟨q0, q1, q2, q3, q4, q5, q6⟩ := id K1
                    go_wp2_with fail
                    go_ret
                    exact ⟨ret_bool (rkB_no (rkA_no (HA.out.trans (by unfold rk1; rw [h2, e2, e0, eo]; all_goals rfl)) HLT.out)).symm, B⟩
                  · go_wp2_with fail
                    refine (specHolds_any lo hi x _).mono ?_
                    rintro e v4 ⟨rfl, hbl⟩
                    rw [eo]
                    clear p0 p1 p2 p3 p4 p5 p6 q0 q1 q2 q3 q4 q5 q6
                    (replace K0 := K0.below hbl); (replace K1 := K1.below hbl); (replace B := B.trans (hbl.mono B.size)); (clear hbl)
                    obtain ⟨p0, p1, p2, p3, p4, p5, p6⟩ := id K0
                    obtain ⟨q0, q1, q2, q3, q4, q5, q6⟩ := id K1
                    cases H
                    · go_upto_region 25 with fail
                      refine wp_region_held_drew (S := (fun w' => w'.cell? ⟨k1, 0, none⟩ = some (.int .i64 x))) (by kernel_rfl) ?_ (fun hHeld => ?_)
                      · exact q1
                      refine wpAnyH_take (i := 0) (v := ?_) (by rw [List.getElem?_toArray]; rfl) (by kernel_rfl) (by kernel_rfl) (by kernel_rfl) (by intro _ _ _ h; exact h) (Or.inl ⟨by rfl, ?_⟩) (by assumption) ?_
                      rotate_left
                      · (intro w hSw; (try dsimp only at hSw); go_simp; all_goals with_reducible rfl)
                      (try simp only [Act.put, List.setIfInBounds_toArray, List.set_cons_zero, List.set_cons_succ])
                      refine wpAnyH_take (i := 1) (v := ?_) (by rw [List.getElem?_toArray]; rfl) (by kernel_rfl) (by kernel_rfl) (by kernel_rfl) (by intro _ _ _ h; exact h) (Or.inl ⟨by rfl, ?_⟩) (by assumption) ?_
                      rotate_left
                      · (intro w hSw; (try dsimp only at hSw); go_simp; all_goals with_reducible rfl)
                      (try simp only [Act.put, List.setIfInBounds_toArray, List.set_cons_zero, List.set_cons_succ])
                      refine wpAnyH_take (i := 2) (v := ?_) (by rw [List.getElem?_toArray]; rfl) (by kernel_rfl) (by kernel_rfl) (by kernel_rfl) (by intro _ _ _ h; exact h) (Or.inl ⟨by rfl, ?_⟩) (by assumption) ?_
                      rotate_left
                      · (intro w hSw; (try dsimp only at hSw); go_simp; all_goals with_reducible rfl)
                      (try simp only [Act.put, List.setIfInBounds_toArray, List.set_cons_zero, List.set_cons_succ])
                      refine wpAnyH_take (i := 3) (v := ?_) (by rw [List.getElem?_toArray]; rfl) (by kernel_rfl) (by kernel_rfl) (by kernel_rfl) (by intro _ _ _ h; exact h) (Or.inl ⟨by rfl, ?_⟩) (by assumption) ?_
                      rotate_left
                      · (intro w hSw; (try dsimp only at hSw); go_simp; all_goals with_reducible rfl)
                      (try simp only [Act.put, List.setIfInBounds_toArray, List.set_cons_zero, List.set_cons_succ])
                      refine wpAnyH_done (by kernel_rfl) ?_ _
                      go_wp2_with fail
                      go_roundw
                      case rel => exact ⟨k + 1, true, x, by have := HLT.out; omega, by go_num, rfl, rfl, rkS_we HR.out e2, HA.out.trans (by unfold rk1; rw [h2, e2, e0, eo]; all_goals rfl), Below.drew B⟩
                      case measure => have hlt' := HLT.out; simp [intOf]; omega
                    · cases es : (decide (x < L))
                      · go_upto_region 25 with fail
                        refine wp_region_held_drew (S := (fun w' => w'.cell? ⟨k1, 0, none⟩ = some (.int .i64 x))) (by kernel_rfl) ?_ (fun hHeld => ?_)
                        · exact q1
                        refine wpAnyH_take (i := 0) (v := ?_) (by rw [List.getElem?_toArray]; rfl) (by kernel_rfl) (by kernel_rfl) (by kernel_rfl) (by intro _ _ _ h; exact h) (Or.inl ⟨by rfl, ?_⟩) (by assumption) ?_
                        rotate_left
                        · (intro w hSw; (try dsimp only at hSw); go_simp; all_goals with_reducible rfl)
                        (try simp only [Act.put, List.setIfInBounds_toArray, List.set_cons_zero, List.set_cons_succ])
                        refine wpAnyH_take (i := 1) (v := ?_) (by rw [List.getElem?_toArray]; rfl) (by kernel_rfl) (by kernel_rfl) (by kernel_rfl) (by intro _ _ _ h; exact h) (Or.inl ⟨by rfl, ?_⟩) (by assumption) ?_
                        rotate_left
                        · (intro w hSw; (try dsimp only at hSw); go_simp; all_goals with_reducible rfl)
                        (try simp only [Act.put, List.setIfInBounds_toArray, List.set_cons_zero, List.set_cons_succ])
                        refine wpAnyH_take (i := 2) (v := ?_) (by rw [List.getElem?_toArray]; rfl) (by kernel_rfl) (by kernel_rfl) (by kernel_rfl) (by intro _ _ _ h; exact h) (Or.inl ⟨by rfl, ?_⟩) (by assumption) ?_
                        rotate_left
                        · (intro w hSw; (try dsimp only at hSw); go_simp; all_goals with_reducible rfl)
                        (try simp only [Act.put, List.setIfInBounds_toArray, List.set_cons_zero, List.set_cons_succ])
                        refine wpAnyH_take (i := 3) (v := ?_) (by rw [List.getElem?_toArray]; rfl) (by kernel_rfl) (by kernel_rfl) (by kernel_rfl) (by intro _ _ _ h; exact h) (Or.inl ⟨by rfl, ?_⟩) (by assumption) ?_
                        rotate_left
                        · (intro w hSw; (try dsimp only at hSw); go_simp; all_goals with_reducible rfl)
                        (try simp only [Act.put, List.setIfInBounds_toArray, List.set_cons_zero, List.set_cons_succ])
                        refine wpAnyH_done (by kernel_rfl) ?_ _
                        go_wp2_with fail
                        go_roundw
                        case rel => exact ⟨k + 1, true, x, by have := HLT.out; omega, by go_num, rfl, rfl, rkS_we HR.out e2, HA.out.trans (by unfold rk1; rw [h2, e2, e0, eo, es]; all_goals rfl), Below.drew B⟩
                        case measure => have hlt' := HLT.out; simp [intOf]; omega
                      · go_wp2_with fail
                        go_ret
                        exact ⟨ret_bool (rkB_no (rkA_no (HA.out.trans (by unfold rk1; rw [h2, e2, e0, eo, es]; all_goals rfl)) HLT.out)).symm, B⟩
                · cases H
                  · go_wp2_with fail
                    go_ret
                    exact ⟨ret_bool (rkB_no (rkA_no (HA.out.trans (by unfold rk1; rw [h2, e2, e0]; all_goals rfl)) HLT.out)).symm, B⟩
                  · cases el : (x == L)
                    · go_wp2_with fail
                      go_ret
                      exact ⟨ret_bool (rkB_no (rkA_no (HA.out.trans (by unfold rk1; rw [h2, e2, e0, el]; all_goals rfl)) HLT.out)).symm, B⟩
                    · cases eh : (decide (x ≤ hi))
                      · go_upto_region 25 with fail
                        refine wp_region_held_drew (S := (fun w' => w'.cell? ⟨k1, 0, none⟩ = some (.int .i64 x))) (by kernel_rfl) ?_ (fun hHeld => ?_)
                        · exact q1
                        refine wpAnyH_take (i := 0) (v := ?_) (by rw [List.getElem?_toArray]; rfl) (by kernel_rfl) (by kernel_rfl) (by kernel_rfl) (by intro _ _ _ h; exact h) (Or.inl ⟨by rfl, ?_⟩) (by assumption) ?_
                        rotate_left
                        · (intro w hSw; (try dsimp only at hSw); go_simp; all_goals with_reducible rfl)
                        (try simp only [Act.put, List.setIfInBounds_toArray, List.set_cons_zero, List.set_cons_succ])
                        refine wpAnyH_take (i := 1) (v := ?_) (by rw [List.getElem?_toArray]; rfl) (by kernel_rfl) (by kernel_rfl) (by kernel_rfl) (by intro _ _ _ h; exact h) (Or.inl ⟨by rfl, ?_⟩) (by assumption) ?_
                        rotate_left
                        · (intro w hSw; (try dsimp only at hSw); go_simp; all_goals with_reducible rfl)
                        (try simp only [Act.put, List.setIfInBounds_toArray, List.set_cons_zero, List.set_cons_succ])
                        refine wpAnyH_take (i := 2) (v := ?_) (by rw [List.getElem?_toArray]; rfl) (by kernel_rfl) (by kernel_rfl) (by kernel_rfl) (by intro _ _ _ h; exact h) (Or.inl ⟨by rfl, ?_⟩) (by assumption) ?_
                        rotate_left
                        · (intro w hSw; (try dsimp only at hSw); go_simp; all_goals with_reducible rfl)
                        (try simp only [Act.put, List.setIfInBounds_toArray, List.set_cons_zero, List.set_cons_succ])
                        refine wpAnyH_take (i := 3) (v := ?_) (by rw [List.getElem?_toArray]; rfl) (by kernel_rfl) (by kernel_rfl) (by kernel_rfl) (by intro _ _ _ h; exact h) (Or.inl ⟨by rfl, ?_⟩) (by assumption) ?_
                        rotate_left
                        · (intro w hSw; (try dsimp only at hSw); go_simp; all_goals with_reducible rfl)
                        (try simp only [Act.put, List.setIfInBounds_toArray, List.set_cons_zero, List.set_cons_succ])
                        refine wpAnyH_done (by kernel_rfl) ?_ _
                        go_wp2_with fail
                        go_roundw
                        case rel => exact ⟨k + 1, true, x, by have := HLT.out; omega, by go_num, rfl, rfl, rkS_we HR.out e2, HA.out.trans (by unfold rk1; rw [h2, e2, e0, el, eh]; all_goals rfl), Below.drew B⟩
                        case measure => have hlt' := HLT.out; simp [intOf]; omega
                      · go_wp2_with fail
                        go_ret
                        exact ⟨ret_bool (rkB_no (rkA_no (HA.out.trans (by unfold rk1; rw [h2, e2, e0, el, eh]; all_goals rfl)) HLT.out)).symm, B⟩
            · go_wp2_with fail
              go_ret
              exact ⟨ret_bool (rkB_no (rkA_no (HA.out.trans (by unfold rk1; rw [h2, e2]; all_goals rfl)) HLT.out)).symm, B⟩
    · have hkn : k = n := by omega
      subst hkn
      have hli : ¬ (k : Int) < (k : Int) := by omega
      go_wp2_with fail
      go_ret
      exact ⟨ret_bool (rkB_yes hA hn).symm, hB⟩
set_option maxHeartbeats 2000000 in
theorem specReadsOk_zero (a a' : Option Addr) (c c' : Nat) (M : Nat → LkT) (R : Nat → RgT) (w : World) :
    Calls Try.prog 35 #[.slice a 0 c, .slice a' 0 c'] w fun e w' => e = .returned (.bool (rkB M R 0 0)) ∧ Below w.heap.size w w' := by
  go_enter Try.func35, Try.ntmps35
  go_wp2_with fail
  go_loopw [7] (fun i wr => i = .int .i64 0 ∧ w = wr) (fun i _ => 0)
  case atStart => exact ⟨rfl, by first | rfl | trivial⟩
  case round =>
    obtain ⟨rfl, rfl⟩ := hrel
    go_wp2_with fail
    go_ret
    exact ⟨rfl, Below.refl _ _⟩
set_option maxHeartbeats 2000000 in
theorem specReadsOk_ne (a a' : Option Addr) (n m c c' : Nat) (M : Nat → LkT) (R : Nat → RgT) (w : World) (hn : n ≤ maxLen) (hm : m ≤ maxLen) (h : n ≠ m ∨ 200 < n) :
    Calls Try.prog 35 #[.slice a n c, .slice a' m c'] w fun e w' => e = .returned (.bool (rkB M R n m)) ∧ Below w.heap.size w w' := by
  unfold maxLen at hn hm
  by_cases e : n = m
  · have h2 : 200 < n := by omega
    subst e
    have hb : rkB M R n n = false := by rw [rkB, show decide (n ≤ 200) = false from decide_eq_false (by omega)]; simp
    have h3 : (200 : Int) < (n : Int) := by omega
    rw [hb]
    go_enter Try.func35, Try.ntmps35
    go_wp2_with fail
    go_ret
    exact ⟨rfl, Below.refl _ _⟩
  · have hb : rkB M R n m = false := by rw [rkB, show (n == m) = false from beq_false_of_ne e]; simp
    have h3 : ((n : Int) != (m : Int)) = true := bne_iff_ne.2 (fun q => e (by omega))
    rw [hb]
    go_enter Try.func35, Try.ntmps35
    go_wp2_with fail
    go_ret
    exact ⟨rfl, Below.refl _ _⟩
theorem specReadsOk_any (a a' : Option Addr) (n m c c' : Nat) (M : Nat → LkT) (R : Nat → RgT) (w : World) (hn : n ≤ maxLen) (hm : m ≤ maxLen) (h : SrcC w a (n * 3) (MFLook M)) (h' : SrcC w a' (m * 3) (MFReading R)) :
    Calls Try.prog 35 #[.slice a n c, .slice a' m c'] w fun e w' => e = .returned (.bool (rkB M R n m)) ∧ Below w.heap.size w w' := by
  by_cases e : n = m ∧ n ≤ 200
  · obtain ⟨e1, e2⟩ := e
    subst e1
    by_cases h0 : n = 0
    · subst h0; exact specReadsOk_zero a a' c c' M R w
    · rcases h with h | ⟨b, off, rfl, hp⟩
      · exact absurd h (by omega)
      · rcases h' with h | ⟨b', off', rfl, hp'⟩
        · exact absurd h (by omega)
        · exact specReadsOk_some b off c b' off' c' n M R w e2 hp hp'
  · exact specReadsOk_ne a a' n m c c' M R w hn hm (by omega)end Go.Proofs.Ytdllkfllnljaaaa
