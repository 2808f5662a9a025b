/- AppRun in the specification. -/
import Derived.Test.YtdllkfllnljaaaaA121
import Derived.Test.YtdllkfllnljaaaaA123
import Derived.Test.YtdllkfllnljaaaaA127
import Derived.Test.YtdllkfllnljaaaaA126
import Derived.Deep.RegionHeld3
import Derived.WalkKit
import Derived.WalkSpells
import Derived.WalkLawsBesides
import Derived.Deep.RegionHeld
namespace Go.Proofs.Ytdllkfllnljaaaa
open Go.RowKit
set_option linter.unusedVariables false
/- What a row of looks comes to: the clock behind k looks; the readings. -/
def anC (s : Bool × Int) (q : LkT) : Int := arC s.1 s.2 q.1 q.2.1 q.2.2
def anG (s : Bool × Int) (q : LkT) : RgT := (arX s.1 s.2 q.1 q.2.1 q.2.2, arD s.1 s.2 q.1 q.2.1 q.2.2, anC s q)
def anN (s : Bool × Int) (q : LkT) : Bool × Int := match (anC s q != 1) with | true => (arH s.1 s.2 q.1 q.2.1 q.2.2, arL s.1 s.2 q.1 q.2.1 q.2.2) | false => s
def anS (M : Nat → LkT) (h : Bool) (l : Int) : Nat → Bool × Int
  | 0 => (h, l)
  | j + 1 => anN (anS M h l j) (M j)
def anR (M : Nat → LkT) (h : Bool) (l : Int) : Nat → List RgT
  | 0 => []
  | j + 1 => anR M h l j ++ [anG (anS M h l j) (M j)]
theorem anR_len (M : Nat → LkT) (h : Bool) (l : Int) : ∀ n, (anR M h l n).length = n
  | 0 => rfl
  | n + 1 => by rw [anR, List.length_append, anR_len M h l n]; rfl
def anZ (n : Nat) : Nat := match decide (n ≤ 200) with | true => n | false => 0
theorem anZ_t {n : Nat} (h : n ≤ 200) : anZ n = n := by unfold anZ; rw [decide_eq_true h]
theorem anZ_f {n : Nat} (h : 200 < n) : anZ n = 0 := by unfold anZ; rw [decide_eq_false (by omega)]
theorem an_go {M : Nat → LkT} {h : Bool} {l : Int} {k : Nat} {H : Bool} {T : Int} {y : Bool} {lo hi : Int} (hS : anS M h l k = (H, T)) (hM : M k = (y, lo, hi)) : anR M h l (k + 1) = anR M h l k ++ [(arX H T y lo hi, arD H T y lo hi, arC H T y lo hi)] ∧ ((arC H T y lo hi != 1) = true → anS M h l (k + 1) = (arH H T y lo hi, arL H T y lo hi)) ∧ ((arC H T y lo hi != 1) = false → anS M h l (k + 1) = (H, T)) := by
  refine ⟨?_, ?_, ?_⟩
  · rw [anR, hS, hM]; rfl
  · intro e
    rw [anS, hS, hM, anN]
    show (match (arC H T y lo hi != 1) with | true => _ | false => _) = _
    rw [e]
  · intro e
    rw [anS, hS, hM, anN]
    show (match (arC H T y lo hi != 1) with | true => _ | false => _) = _
    rw [e]
theorem two_butA (w : World) (j : Nat) (a b : Value) : But j w ((w.setCell ⟨j, 0, none⟩ a).setCell ⟨j, 1, none⟩ b) := ((But.refl j w).setCell 0 a).setCell 1 b

set_option maxRecDepth 100000 in
set_option maxHeartbeats 16000000 in
theorem specAppRun_any (h : Bool) (l : Int) (a : Option Addr) (n c : Nat) (M : Nat → LkT) (w : World) (hm : n ≤ maxLen) (hs : SrcC w a (n * 3) (MFLook M)) :
    Calls Try.prog 27 #[.agg #[.bool h, .int .i64 l], .slice a n c] w fun e w' => ∃ v, e = .returned (.tuple #[v, .agg #[.bool (anS M h l (anZ n)).1, .int .i64 (anS M h l (anZ n)).2]]) ∧ w'.ownsRow w.heap.size 40 3 v (anR M h l (anZ n)).length (grow (anR M h l (anZ n))) ∧ Below w.heap.size w w' := by
  have HS : Hid (SrcC w a (n * 3) (MFLook M)) := hs
  clear hs
  unfold maxLen at hm
  have A0 := Below.nw w (.cells #[.bool h, .int .i64 l] 25)
  have A1 := Below.nw (w.alloc (.cells #[.bool h, .int .i64 l] 25)) (.cells #[.bool false, .int .i64 0] 25)
  have A2 := Below.nw ((w.alloc (.cells #[.bool h, .int .i64 l] 25)).alloc (.cells #[.bool false, .int .i64 0] 25)) (.cells #[] 40)
  have N := ((Bx2.new w (.bool h) (.int .i64 l) 25).below A1).below A2
  have R := (Bx2.new (w.alloc (.cells #[.bool h, .int .i64 l] 25)) (.bool false) (.int .i64 0) 25).below A2
  have OW := made_reading ((w.alloc (.cells #[.bool h, .int .i64 l] 25)).alloc (.cells #[.bool false, .int .i64 0] 25))
  have B := (A0.trans (A1.mono A0.size)).trans (A2.mono (A0.trans (A1.mono A0.size)).size)
  simp only [World.size_alloc] at R OW
  clear A0 A1 A2
  by_cases h200 : 200 < n
  · have hi2 : (200 : Int) < (n : Int) := by omega
    rw [anZ_f h200]
    go_enter Try.func27, Try.ntmps27
    go_upto_region 2 with fail
    have hj : w.heap.size ≤ w.heap.size + 1 := by omega
    have d1 : w.heap.size ≠ w.heap.size + 1 := by omega
    have hjo : w.heap.size + 1 < w.heap.size + 1 + 1 := by omega
    have hjb : w.heap.size ≤ w.heap.size + 1 + 1 := by omega
    generalize (((w.alloc (.cells #[.bool h, .int .i64 l] 25)).alloc (.cells #[.bool false, .int .i64 0] 25)).alloc (.cells #[] 40)) = v at *
    generalize w.heap.size + 1 + 1 = jo at *
    generalize w.heap.size + 1 = jr at *
    have RR := (R.set0 (.bool h)).set1 (.int .i64 l)
    have BB := (B.setCell (p := ⟨jr, 0, none⟩) hj (.bool h)).setCell (p := ⟨jr, 1, none⟩) hj (.int .i64 l)
    have OO := own_butK OW (two_butA v jr (.bool h) (.int .i64 l)) hjo
    obtain ⟨n0, n1, n2, n3, n4⟩ := id N
    obtain ⟨r0, r1, r2, r3, r4⟩ := id R
    go_upto_region 3 with fail
    refine wp_region_held_drew (S := (fun w' => w'.cell? ⟨w.heap.size, 0, none⟩ = some (.bool h) ∧ w'.cell? ⟨w.heap.size, 1, none⟩ = some (.int .i64 l))) (by kernel_rfl) ?_ (fun hHeld => ?_)
    · first | exact ⟨n1, n2⟩ | exact ⟨keepC (keepC n1 d1) d1, keepC (keepC n2 d1) d1⟩
    refine wpAnyH_take (i := 0) (v := ?_) (by rw [List.getElem?_toArray]; rfl) (by kernel_rfl) (by kernel_rfl) (by kernel_rfl) (by intro _ _ _ h; exact h) (Or.inl ⟨by rfl, ?_⟩) (by assumption) ?_
    rotate_left
    · (intro w hSw; (try dsimp only at hSw); go_simp; all_goals with_reducible rfl)
    (try simp only [Act.put, List.setIfInBounds_toArray, List.set_cons_zero, List.set_cons_succ])
    refine wpAnyH_take (i := 1) (v := ?_) (by rw [List.getElem?_toArray]; rfl) (by kernel_rfl) (by kernel_rfl) (by kernel_rfl) (by intro _ _ _ h; exact h) (Or.inl ⟨by rfl, ?_⟩) (by assumption) ?_
    rotate_left
    · (intro w hSw; (try dsimp only at hSw); go_simp; all_goals with_reducible rfl)
    (try simp only [Act.put, List.setIfInBounds_toArray, List.set_cons_zero, List.set_cons_succ])
    refine wpAnyH_take (i := 2) (v := ?_) (by rw [List.getElem?_toArray]; rfl) (by kernel_rfl) (by kernel_rfl) (by kernel_rfl) (by intro _ _ _ h; exact h) (Or.inl ⟨by rfl, ?_⟩) (by assumption) ?_
    rotate_left
    · (intro w hSw; (try dsimp only at hSw); go_simp; all_goals with_reducible rfl)
    (try simp only [Act.put, List.setIfInBounds_toArray, List.set_cons_zero, List.set_cons_succ])
    refine wpAnyH_ready (rs := [3]) (by kernel_rfl) (by simp) ?_
    refine AllReadyH.cons (by rw [List.getElem?_toArray]; rfl) (fun K hK => ?_) AllReadyH.nil
    go_simp
    refine hK.out _ _ ?_ (fun hHeld => ?_)
    · first | exact ⟨n1, n2⟩ | exact ⟨keepC (keepC n1 d1) d1, keepC (keepC n2 d1) d1⟩
    clear hK K
    (try simp only [Act.put, List.setIfInBounds_toArray, List.set_cons_zero, List.set_cons_succ])
    refine wpAnyH_done (by kernel_rfl) ?_ _
    go_wp2_with fail
    clear n0 n1 n2 n3 n4 r0 r1 r2 r3 r4
    generalize (v.setCell ⟨jr, 0, none⟩ (.bool h)).setCell ⟨jr, 1, none⟩ (.int .i64 l) = vz at *
    obtain ⟨r0, r1, r2, r3, r4⟩ := id RR
    exact bodyPost_ret (v := (.tuple #[.slice (some ⟨jo, 0, none⟩) 0 0, .agg #[.bool h, .int .i64 l]])) (by simp (maxDischargeDepth := 6) [results, Try.results27, go_sem, *]) rfl ⟨.slice (some ⟨jo, 0, none⟩) 0 0, rfl, own_baseG OO hjb, Below.drew BB⟩
  · have hn : n ≤ 200 := by omega
    have hi2 : ¬ (200 : Int) < (n : Int) := by omega
    rw [anZ_t hn]
    go_enter Try.func27, Try.ntmps27
    go_upto_region 2 with fail
    have hj : w.heap.size ≤ w.heap.size + 1 := by omega
    have d1 : w.heap.size ≠ w.heap.size + 1 := by omega
    have hjo : w.heap.size + 1 < w.heap.size + 1 + 1 := by omega
    have hjb : w.heap.size ≤ w.heap.size + 1 + 1 := by omega
    have hjw : w.heap.size < w.heap.size + 1 + 1 := by omega
    have hjs : w.heap.size + 1 + 1 ≤ (((w.alloc (.cells #[.bool h, .int .i64 l] 25)).alloc (.cells #[.bool false, .int .i64 0] 25)).alloc (.cells #[] 40)).heap.size := by simp
    generalize (((w.alloc (.cells #[.bool h, .int .i64 l] 25)).alloc (.cells #[.bool false, .int .i64 0] 25)).alloc (.cells #[] 40)) = v at *
    generalize w.heap.size + 1 + 1 = jo at *
    generalize w.heap.size + 1 = jr at *
    go_wp2_with fail
    go_loopw [6, 7] (fun s6 i wr => ∃ (k : Nat) (H : Bool) (T : Int), k ≤ n ∧ i = .int .i64 k ∧ anS M h l k = (H, T) ∧ Bx2 wr w.heap.size (.bool H) (.int .i64 T) ∧ Bx2 wr jr (.bool false) (.int .i64 0) ∧ wr.ownsRow jo 40 3 s6 (anR M h l k).length (grow (anR M h l k)) ∧ jo ≤ wr.heap.size ∧ Below w.heap.size w wr) (fun _ i _ => n - (intOf i).toNat)
    case atStart => exact ⟨0, h, l, Nat.zero_le _, rfl, rfl, N, R, OW, hjs, B⟩
    case round =>
      clear N R OW B hjs
      obtain ⟨k, H, T, hk, rfl, hS, N, R, OW, hjs, B⟩ := hrel
      by_cases hlt : k < n
      · obtain ⟨b, off, rfl, hf⟩ : ∃ b off, a = some ⟨b, off, none⟩ ∧ Cs w b off (n * 3) (MFLook M) := by
          rcases HS.out with q | q
          · exact absurd q (by omega)
          · exact q
        obtain ⟨y, lo, hi, hM⟩ := tupLook M k
        have SK : Hid (∀ w', Below wr.heap.size wr w' → ((fun w' => w'.cell? ⟨b, off + k * 3, none⟩ = some (.bool y) ∧ w'.cell? ⟨b, off + k * 3 + 1, none⟩ = some (.int .i64 lo) ∧ w'.cell? ⟨b, off + k * 3 + 2, none⟩ = some (.int .i64 hi) ∧ w'.cell? ⟨w.heap.size, 0, none⟩ = some (.bool H) ∧ w'.cell? ⟨w.heap.size, 1, none⟩ = some (.int .i64 T))) w') := fun w' hw => by
          obtain ⟨a1, a2, a3⟩ := ((hf.below B hf.1).below hw (Nat.lt_of_lt_of_le hf.1 B.size)).elLook hlt hM
          exact ⟨a1, a2, a3, (N.below hw).2.1, (N.below hw).2.2.1⟩
        obtain ⟨g1, g2, g3⟩ := an_go hS hM
        have G1 : Hid (anR M h l (k + 1) = anR M h l k ++ [(arX H T y lo hi, arD H T y lo hi, arC H T y lo hi)]) := g1
        have G2 : Hid ((arC H T y lo hi != 1) = true → anS M h l (k + 1) = (arH H T y lo hi, arL H T y lo hi)) := g2
        have G3 : Hid ((arC H T y lo hi != 1) = false → anS M h l (k + 1) = (H, T)) := g3
        have HLT : Hid (k < n) := hlt
        have hlen : (anR M h l k).length ≤ 1048576 := by rw [anR_len]; omega
        have CR := fun w' => specAppRead_any H T y lo hi w'
        have hli : (k : Int) < (n : Int) := by omega
        clear g1 g2 g3 hM hS hf HS
        generalize hLs : anR M h l k = Ls at *
        clear hLs
        generalize arX H T y lo hi = X at *
        generalize arD H T y lo hi = D at *
        generalize arC H T y lo hi = C at *
        generalize arH H T y lo hi = H' at *
        generalize arL H T y lo hi = T' at *
        go_upto_region 7 with fail
        go_cut [8, 9, 10, 11] from 18 to 50 (fun s8 s9 s10 s11 wx => ∃ k0 : Nat, s8 = .pointer (some ⟨k0, 0, none⟩) ∧ s9 = .int .i64 X ∧ s10 = .bool D ∧ s11 = .int .i64 C ∧ wr.heap.size ≤ k0 ∧ Bx2 wx k0 (.bool H') (.int .i64 T') ∧ Below wr.heap.size wr wx)
        case first => as_aux_lemma =>
          refine wp_region_held_drew (S := (fun w' => w'.cell? ⟨b, off + k * 3, none⟩ = some (.bool y) ∧ w'.cell? ⟨b, off + k * 3 + 1, none⟩ = some (.int .i64 lo) ∧ w'.cell? ⟨b, off + k * 3 + 2, none⟩ = some (.int .i64 hi) ∧ w'.cell? ⟨w.heap.size, 0, none⟩ = some (.bool H) ∧ w'.cell? ⟨w.heap.size, 1, none⟩ = some (.int .i64 T))) (by kernel_rfl) ?_ (fun hHeld => ?_)
          · first | exact SK.out _ XB | exact SK.out _ (Below.drew (Below.refl _ _))
          have XB : Below wr.heap.size wr wr.drew := Below.drew (Below.refl _ _)
          generalize wr.drew = vx at *
          refine wpAnyH_take (i := 0) (v := ?_) (by rw [List.getElem?_toArray]; rfl) (by kernel_rfl) (by kernel_rfl) (by kernel_rfl) (by intro _ _ _ h; exact h) (Or.inl ⟨by rfl, ?_⟩) (by assumption) ?_
          rotate_left
          · (intro w hSw; (try dsimp only at hSw); go_simp; all_goals with_reducible rfl)
          (try simp only [Act.put, List.setIfInBounds_toArray, List.set_cons_zero, List.set_cons_succ])
          refine wpAnyH_take (i := 1) (v := ?_) (by rw [List.getElem?_toArray]; rfl) (by kernel_rfl) (by kernel_rfl) (by kernel_rfl) (by intro _ _ _ h; exact h) (Or.inl ⟨by rfl, ?_⟩) (by assumption) ?_
          rotate_left
          · (intro w hSw; (try dsimp only at hSw); go_simp; all_goals with_reducible rfl)
          (try simp only [Act.put, List.setIfInBounds_toArray, List.set_cons_zero, List.set_cons_succ])
          refine wpAnyH_take (i := 2) (v := ?_) (by rw [List.getElem?_toArray]; rfl) (by kernel_rfl) (by kernel_rfl) (by kernel_rfl) (by intro _ _ _ h; exact h) (Or.inl ⟨by rfl, ?_⟩) (by assumption) ?_
          rotate_left
          · (intro w hSw; (try dsimp only at hSw); go_simp; all_goals with_reducible rfl)
          (try simp only [Act.put, List.setIfInBounds_toArray, List.set_cons_zero, List.set_cons_succ])
          refine wpAnyH_take (i := 3) (v := ?_) (by rw [List.getElem?_toArray]; rfl) (by kernel_rfl) (by kernel_rfl) (by kernel_rfl) (by intro _ _ _ h; exact h) (Or.inl ⟨by rfl, ?_⟩) (by assumption) ?_
          rotate_left
          · (intro w hSw; (try dsimp only at hSw); go_simp; all_goals with_reducible rfl)
          (try simp only [Act.put, List.setIfInBounds_toArray, List.set_cons_zero, List.set_cons_succ])
          refine wpAnyH_take (i := 4) (v := ?_) (by rw [List.getElem?_toArray]; rfl) (by kernel_rfl) (by kernel_rfl) (by kernel_rfl) (by intro _ _ _ h; exact h) (Or.inl ⟨by rfl, ?_⟩) (by assumption) ?_
          rotate_left
          · (intro w hSw; (try dsimp only at hSw); go_simp; all_goals with_reducible rfl)
          (try simp only [Act.put, List.setIfInBounds_toArray, List.set_cons_zero, List.set_cons_succ])
          refine wpAnyH_take (i := 5) (v := ?_) (by rw [List.getElem?_toArray]; rfl) (by kernel_rfl) (by kernel_rfl) (by kernel_rfl) (by intro _ _ _ h; exact h) (Or.inl ⟨by rfl, ?_⟩) (by assumption) ?_
          rotate_left
          · (intro w hSw; (try dsimp only at hSw); go_simp; all_goals with_reducible rfl)
          (try simp only [Act.put, List.setIfInBounds_toArray, List.set_cons_zero, List.set_cons_succ])
          refine wpAnyH_take (i := 6) (v := ?_) (by rw [List.getElem?_toArray]; rfl) (by kernel_rfl) (by kernel_rfl) (by kernel_rfl) (by intro _ _ _ h; exact h) (Or.inl ⟨by rfl, ?_⟩) (by assumption) ?_
          rotate_left
          · (intro w hSw; (try dsimp only at hSw); go_simp; all_goals with_reducible rfl)
          (try simp only [Act.put, List.setIfInBounds_toArray, List.set_cons_zero, List.set_cons_succ])
          refine wpAnyH_take (i := 7) (v := ?_) (by rw [List.getElem?_toArray]; rfl) (by kernel_rfl) (by kernel_rfl) (by kernel_rfl) (by intro _ _ _ h; exact h) (Or.inl ⟨by rfl, ?_⟩) (by assumption) ?_
          rotate_left
          · (intro w hSw; (try dsimp only at hSw); go_simp; all_goals with_reducible rfl)
          (try simp only [Act.put, List.setIfInBounds_toArray, List.set_cons_zero, List.set_cons_succ])
          refine wpAnyH_take (i := 8) (v := ?_) (by rw [List.getElem?_toArray]; rfl) (by kernel_rfl) (by kernel_rfl) (by kernel_rfl) (by intro _ _ _ h; exact h) (Or.inl ⟨by rfl, ?_⟩) (by assumption) ?_
          rotate_left
          · (intro w hSw; (try dsimp only at hSw); go_simp; all_goals with_reducible rfl)
          (try simp only [Act.put, List.setIfInBounds_toArray, List.set_cons_zero, List.set_cons_succ])
          refine wpAnyH_take (i := 9) (v := ?_) (by rw [List.getElem?_toArray]; rfl) (by kernel_rfl) (by kernel_rfl) (by kernel_rfl) (by intro _ _ _ h; exact h) (Or.inl ⟨by rfl, ?_⟩) (by assumption) ?_
          rotate_left
          · (intro w hSw; (try dsimp only at hSw); go_simp; all_goals with_reducible rfl)
          (try simp only [Act.put, List.setIfInBounds_toArray, List.set_cons_zero, List.set_cons_succ])
          refine wpAnyH_take (i := 10) (v := ?_) (by rw [List.getElem?_toArray]; rfl) (by kernel_rfl) (by kernel_rfl) (by kernel_rfl) (by intro _ _ _ h; exact h) (Or.inl ⟨by rfl, ?_⟩) (by assumption) ?_
          rotate_left
          · (intro w hSw; (try dsimp only at hSw); go_simp; all_goals with_reducible rfl)
          (try simp only [Act.put, List.setIfInBounds_toArray, List.set_cons_zero, List.set_cons_succ])
          apply tail1 (F := (fun k0 vx => wr.heap.size ≤ k0 ∧ Bx2 vx k0 (.bool false) (.int .i64 0) ∧ Below wr.heap.size wr vx))
          intro T11_17
          apply tail1 (F := (fun k0 vx => wr.heap.size ≤ k0 ∧ Bx2 vx k0 (.bool false) (.int .i64 0) ∧ Below wr.heap.size wr vx))
          intro T17
          apply tail0 (F := (fun vx => Below wr.heap.size wr vx))
          intro T11
          refine wpAnyH_ready (rs := [11, 17]) (by kernel_rfl) (by simp) ?_
          refine (AllReadyH.cons (by rw [List.getElem?_toArray]; rfl) (fun K hK => ?_) (AllReadyH.cons (by rw [List.getElem?_toArray]; rfl) (fun K hK => ?_) AllReadyH.nil))
          · go_simp
            refine (CR vx).mono ?_; rintro ee vx ⟨rfl, hbl⟩; (replace XB := XB.trans (hbl.mono XB.size)); (clear hbl)
            (try go_wp2_with fail)
            refine hK.out _ _ ?_ (fun hHeld => ?_)
            · first | exact SK.out _ XB | exact SK.out _ (Below.drew (Below.refl _ _))
            clear hK K
            (try simp only [Act.put, List.setIfInBounds_toArray, List.set_cons_zero, List.set_cons_succ])
            refine wpAnyH_take (i := 12) (v := ?_) (by rw [List.getElem?_toArray]; rfl) (by kernel_rfl) (by kernel_rfl) (by kernel_rfl) (by intro _ _ _ h; exact h) (Or.inl ⟨by rfl, ?_⟩) (by assumption) ?_
            rotate_left
            · (intro w hSw; (try dsimp only at hSw); go_simp; all_goals with_reducible rfl)
            (try simp only [Act.put, List.setIfInBounds_toArray, List.set_cons_zero, List.set_cons_succ])
            refine wpAnyH_take (i := 13) (v := ?_) (by rw [List.getElem?_toArray]; rfl) (by kernel_rfl) (by kernel_rfl) (by kernel_rfl) (by intro _ _ _ h; exact h) (Or.inl ⟨by rfl, ?_⟩) (by assumption) ?_
            rotate_left
            · (intro w hSw; (try dsimp only at hSw); go_simp; all_goals with_reducible rfl)
            (try simp only [Act.put, List.setIfInBounds_toArray, List.set_cons_zero, List.set_cons_succ])
            refine wpAnyH_take (i := 14) (v := ?_) (by rw [List.getElem?_toArray]; rfl) (by kernel_rfl) (by kernel_rfl) (by kernel_rfl) (by intro _ _ _ h; exact h) (Or.inl ⟨by rfl, ?_⟩) (by assumption) ?_
            rotate_left
            · (intro w hSw; (try dsimp only at hSw); go_simp; all_goals with_reducible rfl)
            (try simp only [Act.put, List.setIfInBounds_toArray, List.set_cons_zero, List.set_cons_succ])
            refine wpAnyH_take (i := 15) (v := ?_) (by rw [List.getElem?_toArray]; rfl) (by kernel_rfl) (by kernel_rfl) (by kernel_rfl) (by intro _ _ _ h; exact h) (Or.inl ⟨by rfl, ?_⟩) (by assumption) ?_
            rotate_left
            · (intro w hSw; (try dsimp only at hSw); go_simp; all_goals with_reducible rfl)
            (try simp only [Act.put, List.setIfInBounds_toArray, List.set_cons_zero, List.set_cons_succ])
            refine wpAnyH_take (i := 16) (v := ?_) (by rw [List.getElem?_toArray]; rfl) (by kernel_rfl) (by kernel_rfl) (by kernel_rfl) (by intro _ _ _ h; exact h) (Or.inl ⟨by rfl, ?_⟩) (by assumption) ?_
            rotate_left
            · (intro w hSw; (try dsimp only at hSw); go_simp; all_goals with_reducible rfl)
            (try simp only [Act.put, List.setIfInBounds_toArray, List.set_cons_zero, List.set_cons_succ])
            exact T11 _ XB
          · go_simp
            (have K0 := Bx2.new vx (.bool false) (.int .i64 0) 25); (have hk0 := XB.size); (have hbl := Below.nw vx (.cells #[.bool false, .int .i64 0] 25)); (replace XB := XB.trans (hbl.mono XB.size)); (clear hbl); (generalize vx.heap.size = k0 at *); (generalize vx.alloc (.cells #[.bool false, .int .i64 0] 25) = vx at *)
            refine hK.out _ _ ?_ (fun hHeld => ?_)
            · first | exact SK.out _ XB | exact SK.out _ (Below.drew (Below.refl _ _))
            clear hK K
            (try simp only [Act.put, List.setIfInBounds_toArray, List.set_cons_zero, List.set_cons_succ])
            exact T17 _ _ ⟨hk0, K0, XB⟩
          intro vx hF
          have XB : Below wr.heap.size wr vx := hF
          have hHeld : ((fun w' => w'.cell? ⟨b, off + k * 3, none⟩ = some (.bool y) ∧ w'.cell? ⟨b, off + k * 3 + 1, none⟩ = some (.int .i64 lo) ∧ w'.cell? ⟨b, off + k * 3 + 2, none⟩ = some (.int .i64 hi) ∧ w'.cell? ⟨w.heap.size, 0, none⟩ = some (.bool H) ∧ w'.cell? ⟨w.heap.size, 1, none⟩ = some (.int .i64 T))) vx := SK.out _ XB 
          refine wpAnyH_ready (rs := [17]) (by kernel_rfl) (by simp) ?_
          refine (AllReadyH.cons (by rw [List.getElem?_toArray]; rfl) (fun K hK => ?_) AllReadyH.nil)
          · go_simp
            (have K0 := Bx2.new vx (.bool false) (.int .i64 0) 25); (have hk0 := XB.size); (have hbl := Below.nw vx (.cells #[.bool false, .int .i64 0] 25)); (replace XB := XB.trans (hbl.mono XB.size)); (clear hbl); (generalize vx.heap.size = k0 at *); (generalize vx.alloc (.cells #[.bool false, .int .i64 0] 25) = vx at *)
            refine hK.out _ _ ?_ (fun hHeld => ?_)
            · first | exact SK.out _ XB | exact SK.out _ (Below.drew (Below.refl _ _))
            clear hK K
            (try simp only [Act.put, List.setIfInBounds_toArray, List.set_cons_zero, List.set_cons_succ])
            exact T11_17 _ _ ⟨hk0, K0, XB⟩
          intro k0 vx hF
          obtain ⟨hk0, K0, XB⟩ := hF
          have hHeld : ((fun w' => w'.cell? ⟨b, off + k * 3, none⟩ = some (.bool y) ∧ w'.cell? ⟨b, off + k * 3 + 1, none⟩ = some (.int .i64 lo) ∧ w'.cell? ⟨b, off + k * 3 + 2, none⟩ = some (.int .i64 hi) ∧ w'.cell? ⟨w.heap.size, 0, none⟩ = some (.bool H) ∧ w'.cell? ⟨w.heap.size, 1, none⟩ = some (.int .i64 T))) vx := SK.out _ XB 
          refine wpAnyH_ready (rs := [11]) (by kernel_rfl) (by simp) ?_
          refine (AllReadyH.cons (by rw [List.getElem?_toArray]; rfl) (fun K hK => ?_) AllReadyH.nil)
          · go_simp
            refine (CR vx).mono ?_; rintro ee vx ⟨rfl, hbl⟩; (replace XB := XB.trans (hbl.mono XB.size)); (replace K0 := K0.below hbl); (clear hbl)
            (try go_wp2_with fail)
            refine hK.out _ _ ?_ (fun hHeld => ?_)
            · first | exact SK.out _ XB | exact SK.out _ (Below.drew (Below.refl _ _))
            clear hK K
            (try simp only [Act.put, List.setIfInBounds_toArray, List.set_cons_zero, List.set_cons_succ])
            refine wpAnyH_take (i := 12) (v := ?_) (by rw [List.getElem?_toArray]; rfl) (by kernel_rfl) (by kernel_rfl) (by kernel_rfl) (by intro _ _ _ h; exact h) (Or.inl ⟨by rfl, ?_⟩) (by assumption) ?_
            rotate_left
            · (intro w hSw; (try dsimp only at hSw); go_simp; all_goals with_reducible rfl)
            (try simp only [Act.put, List.setIfInBounds_toArray, List.set_cons_zero, List.set_cons_succ])
            refine wpAnyH_take (i := 13) (v := ?_) (by rw [List.getElem?_toArray]; rfl) (by kernel_rfl) (by kernel_rfl) (by kernel_rfl) (by intro _ _ _ h; exact h) (Or.inl ⟨by rfl, ?_⟩) (by assumption) ?_
            rotate_left
            · (intro w hSw; (try dsimp only at hSw); go_simp; all_goals with_reducible rfl)
            (try simp only [Act.put, List.setIfInBounds_toArray, List.set_cons_zero, List.set_cons_succ])
            refine wpAnyH_take (i := 14) (v := ?_) (by rw [List.getElem?_toArray]; rfl) (by kernel_rfl) (by kernel_rfl) (by kernel_rfl) (by intro _ _ _ h; exact h) (Or.inl ⟨by rfl, ?_⟩) (by assumption) ?_
            rotate_left
            · (intro w hSw; (try dsimp only at hSw); go_simp; all_goals with_reducible rfl)
            (try simp only [Act.put, List.setIfInBounds_toArray, List.set_cons_zero, List.set_cons_succ])
            refine wpAnyH_take (i := 15) (v := ?_) (by rw [List.getElem?_toArray]; rfl) (by kernel_rfl) (by kernel_rfl) (by kernel_rfl) (by intro _ _ _ h; exact h) (Or.inl ⟨by rfl, ?_⟩) (by assumption) ?_
            rotate_left
            · (intro w hSw; (try dsimp only at hSw); go_simp; all_goals with_reducible rfl)
            (try simp only [Act.put, List.setIfInBounds_toArray, List.set_cons_zero, List.set_cons_succ])
            refine wpAnyH_take (i := 16) (v := ?_) (by rw [List.getElem?_toArray]; rfl) (by kernel_rfl) (by kernel_rfl) (by kernel_rfl) (by intro _ _ _ h; exact h) (Or.inl ⟨by rfl, ?_⟩) (by assumption) ?_
            rotate_left
            · (intro w hSw; (try dsimp only at hSw); go_simp; all_goals with_reducible rfl)
            (try simp only [Act.put, List.setIfInBounds_toArray, List.set_cons_zero, List.set_cons_succ])
            exact T11_17 _ _ ⟨hk0, K0, XB⟩
          intro k0 vx hF
          obtain ⟨hk0, K0, XB⟩ := hF
          have hHeld : ((fun w' => w'.cell? ⟨b, off + k * 3, none⟩ = some (.bool y) ∧ w'.cell? ⟨b, off + k * 3 + 1, none⟩ = some (.int .i64 lo) ∧ w'.cell? ⟨b, off + k * 3 + 2, none⟩ = some (.int .i64 hi) ∧ w'.cell? ⟨w.heap.size, 0, none⟩ = some (.bool H) ∧ w'.cell? ⟨w.heap.size, 1, none⟩ = some (.int .i64 T))) vx := SK.out _ XB 
          (obtain ⟨za0, zb0, zc0, zd0, ze0⟩ := id K0)
          refine wpAnyH_ready (rs := [18]) (by kernel_rfl) (by simp) ?_
          refine (AllReadyH.cons (by rw [List.getElem?_toArray]; rfl) (fun K hK => ?_) AllReadyH.nil)
          go_simp
          (clear za0 zb0 zc0 zd0 ze0); (replace XB := (XB.setCell (p := ⟨k0, 0, none⟩) hk0 (.bool H')).setCell (p := ⟨k0, 1, none⟩) hk0 (.int .i64 T')); (replace K0 := (K0.set0 (.bool H')).set1 (.int .i64 T')); (generalize (vx.setCell ⟨k0, 0, none⟩ (.bool H')).setCell ⟨k0, 1, none⟩ (.int .i64 T') = vx at *); (obtain ⟨za0, zb0, zc0, zd0, ze0⟩ := id K0)
          refine hK.out _ _ ?_ (fun hHeld => ?_)
          · first | exact SK.out _ XB | exact SK.out _ (Below.drew (Below.refl _ _))
          clear hK K
          (try simp only [Act.put, List.setIfInBounds_toArray, List.set_cons_zero, List.set_cons_succ])
          refine wpAnyH_take (i := 19) (v := ?_) (by rw [List.getElem?_toArray]; rfl) (by kernel_rfl) (by kernel_rfl) (by kernel_rfl) (by intro _ _ _ h; exact h) (Or.inl ⟨by rfl, ?_⟩) (by assumption) ?_
          rotate_left
          · (intro w hSw; (try dsimp only at hSw); go_simp; all_goals with_reducible rfl)
          (try simp only [Act.put, List.setIfInBounds_toArray, List.set_cons_zero, List.set_cons_succ])
          refine wpAnyH_take (i := 20) (v := ?_) (by rw [List.getElem?_toArray]; rfl) (by kernel_rfl) (by kernel_rfl) (by kernel_rfl) (by intro _ _ _ h; exact h) (Or.inl ⟨by rfl, ?_⟩) (by assumption) ?_
          rotate_left
          · (intro w hSw; (try dsimp only at hSw); go_simp; all_goals with_reducible rfl)
          (try simp only [Act.put, List.setIfInBounds_toArray, List.set_cons_zero, List.set_cons_succ])
          refine wpAnyH_take (i := 21) (v := ?_) (by rw [List.getElem?_toArray]; rfl) (by kernel_rfl) (by kernel_rfl) (by kernel_rfl) (by intro _ _ _ h; exact h) (Or.inl ⟨by rfl, ?_⟩) (by assumption) ?_
          rotate_left
          · (intro w hSw; (try dsimp only at hSw); go_simp; all_goals with_reducible rfl)
          (try simp only [Act.put, List.setIfInBounds_toArray, List.set_cons_zero, List.set_cons_succ])
          refine wpAnyH_done (by kernel_rfl) ?_ _
          go_wp2_with fail
          go_meet
          case rel => exact ⟨_, rfl, rfl, rfl, rfl, hk0, K0, XB⟩
        case rest =>
          obtain ⟨k0, rfl, rfl, rfl, rfl, hk0, K0, XB⟩ := hcut
          clear SK CR
          generalize wc = wx at *
          replace N := N.below XB
          replace R := R.below XB
          have hne : ∀ g, Value.ownBlock u6 = some g → g < k0 := fun g hg => Nat.lt_of_lt_of_le (World.ownsRow.lt OW g hg).2 hk0
          replace OW := own_belK' OW XB
          have hjx : jo ≤ wx.heap.size := Nat.le_trans hjs XB.size
          replace B := B.trans (XB.mono B.size)
          clear XB hjs
          go_upto_region 9 with (at_builtin; refine add_reading rfl _ _ rfl jo Ls _ rfl OW rfl hlen hjx ?_; intro v' w9 O9 hg9 hn9)
          have HO9 : Hid (w9.ownsRow jo 40 3 v' (Ls ++ [(X, D, C)]).length (grow (Ls ++ [(X, D, C)]))) := O9
          have B9 := B.trans ((grown_belowK OW hg9 hjx).mono hjb)
          have N9 := N.kept hg9 (fun e => by have := (World.ownsRow.lt OW _ e.symm).1; omega)
          have R9 := R.kept hg9 (fun e => by have := (World.ownsRow.lt OW _ e.symm).1; omega)
          have K9 := K0.kept hg9 (fun e => by have := hne _ e.symm; omega)
          have hj9 : jo ≤ w9.heap.size := Nat.le_trans hjx hg9.size
          clear O9 OW hg9 hn9 B N R K0 hne hjx
          cases hc : (C != 1)
          · go_wp2_with fail
            go_roundw
            case rel => exact ⟨k + 1, H, T, HLT.out, by go_num, G3.out hc, N9, R9, by rw [G1.out]; exact HO9.out, hj9, B9⟩
            case measure => have hlt' := HLT.out; simp [intOf]; omega
          · obtain ⟨z0, z1, z2, z3, z4⟩ := id K9
            obtain ⟨n0, n1, n2, n3, n4⟩ := id N9
            go_wp2_with fail
            go_roundw
            case rel => exact ⟨k + 1, H', T', HLT.out, by go_num, G2.out hc, (N9.set0 _).set1 _, R9.but (two_butA _ _ _ _) (Ne.symm d1), by rw [G1.out]; exact own_butK HO9.out (two_butA _ _ _ _) hjw, by simpa using hj9, (B9.setCell (p := ⟨w.heap.size, 0, none⟩) (Nat.le_refl _) _).setCell (p := ⟨w.heap.size, 1, none⟩) (Nat.le_refl _) _⟩
            case measure => have hlt' := HLT.out; simp [intOf]; omega
      · have hkn : k = n := by omega
        subst hkn
        have hli : ¬ (k : Int) < (k : Int) := by omega
        generalize wr = v at *
        have RR := (R.set0 (.bool H)).set1 (.int .i64 T)
        have BB := (B.setCell (p := ⟨jr, 0, none⟩) hj (.bool H)).setCell (p := ⟨jr, 1, none⟩) hj (.int .i64 T)
        have OO := own_butK OW (two_butA v jr (.bool H) (.int .i64 T)) hjo
        obtain ⟨n0, n1, n2, n3, n4⟩ := id N
        obtain ⟨r0, r1, r2, r3, r4⟩ := id R
        go_upto_region 11 with fail
        refine wp_region_held_drew (S := (fun w' => w'.cell? ⟨w.heap.size, 0, none⟩ = some (.bool H) ∧ w'.cell? ⟨w.heap.size, 1, none⟩ = some (.int .i64 T))) (by kernel_rfl) ?_ (fun hHeld => ?_)
        · first | exact ⟨n1, n2⟩ | exact ⟨keepC (keepC n1 d1) d1, keepC (keepC n2 d1) d1⟩
        refine wpAnyH_take (i := 0) (v := ?_) (by rw [List.getElem?_toArray]; rfl) (by kernel_rfl) (by kernel_rfl) (by kernel_rfl) (by intro _ _ _ h; exact h) (Or.inl ⟨by rfl, ?_⟩) (by assumption) ?_
        rotate_left
        · (intro w hSw; (try dsimp only at hSw); go_simp; all_goals with_reducible rfl)
        (try simp only [Act.put, List.setIfInBounds_toArray, List.set_cons_zero, List.set_cons_succ])
        refine wpAnyH_take (i := 1) (v := ?_) (by rw [List.getElem?_toArray]; rfl) (by kernel_rfl) (by kernel_rfl) (by kernel_rfl) (by intro _ _ _ h; exact h) (Or.inl ⟨by rfl, ?_⟩) (by assumption) ?_
        rotate_left
        · (intro w hSw; (try dsimp only at hSw); go_simp; all_goals with_reducible rfl)
        (try simp only [Act.put, List.setIfInBounds_toArray, List.set_cons_zero, List.set_cons_succ])
        refine wpAnyH_take (i := 2) (v := ?_) (by rw [List.getElem?_toArray]; rfl) (by kernel_rfl) (by kernel_rfl) (by kernel_rfl) (by intro _ _ _ h; exact h) (Or.inl ⟨by rfl, ?_⟩) (by assumption) ?_
        rotate_left
        · (intro w hSw; (try dsimp only at hSw); go_simp; all_goals with_reducible rfl)
        (try simp only [Act.put, List.setIfInBounds_toArray, List.set_cons_zero, List.set_cons_succ])
        refine wpAnyH_ready (rs := [3]) (by kernel_rfl) (by simp) ?_
        refine AllReadyH.cons (by rw [List.getElem?_toArray]; rfl) (fun K hK => ?_) AllReadyH.nil
        go_simp
        refine hK.out _ _ ?_ (fun hHeld => ?_)
        · first | exact ⟨n1, n2⟩ | exact ⟨keepC (keepC n1 d1) d1, keepC (keepC n2 d1) d1⟩
        clear hK K
        (try simp only [Act.put, List.setIfInBounds_toArray, List.set_cons_zero, List.set_cons_succ])
        refine wpAnyH_done (by kernel_rfl) ?_ _
        go_wp2_with fail
        clear n0 n1 n2 n3 n4 r0 r1 r2 r3 r4
        generalize (v.setCell ⟨jr, 0, none⟩ (.bool H)).setCell ⟨jr, 1, none⟩ (.int .i64 T) = vz at *
        obtain ⟨r0, r1, r2, r3, r4⟩ := id RR
        exact bodyPost_ret (v := (.tuple #[u6, .agg #[.bool H, .int .i64 T]])) (by simp (maxDischargeDepth := 6) [results, Try.results27, go_sem, *]) rfl ⟨u6, by first | rfl | rw [hS], own_baseG OO hjb, Below.drew BB⟩end Go.Proofs.Ytdllkfllnljaaaa
