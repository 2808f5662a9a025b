/- The walk of FnEpochs. -/
import Derived.Test.YteifibajafdnlaaV182
import Derived.Test.YteifibajafdnlaaV183
import Derived.Test.YteifibajafdnlaaT171
import Derived.Test.YteifibajafdnlaaT180
import Derived.Test.YteifibajafdnlaaK1
import Derived.Deep.RegionHeld3
import Derived.Deep.DeepCutAuto
import Derived.WalkKit
import Derived.WalkSpells
import Derived.WalkLawsBesides
import Derived.Deep.RegionHeld
namespace Go.Proofs.Yteifibajafdnlaa
open Go.RowKit
set_option linter.unusedVariables false
theorem own_form17 {w : World} {base s n' : Nat} {T : TypeId} {v : Value} {xs : List Value} (h : w.ownsRow base T s v n' xs) : ∃ a c, v = .slice a n' c := by
  rcases h.2 with ⟨he, h0⟩ | ⟨g, cap, cur, he, _⟩
  · exact ⟨none, 0, by rw [he, h0]⟩
  · exact ⟨_, cap, he⟩
set_option maxRecDepth 100000 in
set_option maxHeartbeats 16000000 in
theorem walkEpochs (a0 : Option Addr) (l0 c0 : Nat) (w : World) (hcode : CodeB w w.heap.size a0 l0) :
    Calls Try.prog 3 #[.slice a0 l0 c0] w fun e w' => e = .returned (.bool true) ∧ Below w.heap.size w w' := by
  have HC : Hid (CodeB w w.heap.size a0 l0) := hcode
  clear hcode
  go_enter Try.func3, Try.ntmps3
  go_wp2_with fail
  refine (big_any _ _ _ _).mono ?_
  rintro e w' ⟨rfl, rfl⟩
  by_cases hbg : 1048576 < (l0 : Int)
  · have hbd : decide (1048576 < (l0 : Int)) = true := decide_eq_true hbg
    go_wp2
    go_ret
    exact ⟨rfl, Below.refl _ _⟩
  have hbd : decide (1048576 < (l0 : Int)) = false := decide_eq_false hbg
  have hl0 : l0 ≤ 1048576 := by omega
  go_wp2_with fail
  refine (DrawLifeRun_any a0 l0 c0 w hl0 HC.out).mono ?_
  rintro x w1 ⟨m, e, s, v, L, rfl, hL, OL, B⟩
  obtain ⟨la, lc, rfl⟩ := own_form17 OL
  have HS : Hid (SrcC w1 la (L.length * 2) (MFIval (gV L))) := ownS OL
  have hmL : L.length ≤ maxLen := by unfold maxLen; omega
  have CRun := fun w' h => implLifeRun_any m e s la L.length lc (gV L) w' hmL h
  have hwj : w.heap.size ≤ w1.heap.size := B.size
  clear OL hbd hbg HC hl0 hmL
  generalize hMM : gV L = M at *
  generalize hnn : L.length = n at *
  clear hMM hnn
  have HLB : Hid (∀ b off, la = some ⟨b, off, none⟩ → 0 < n → b < w1.heap.size) := fun b off e' hn => by
    rcases HS.out with r | ⟨b', off', e'', hc⟩
    · omega
    · rw [e'] at e''
      simp at e''
      obtain ⟨rfl, rfl⟩ := e''
      exact hc.1
  have hb := (Below.nw w1 (.cells #[.int .i64 m, .int .i64 e, .int .i64 s] 25)).alloc (by simp) (.cells #[.int .i64 m, .int .i64 e, .int .i64 s] 25)
  have I := (Tx3.new w1 (.int .i64 m) (.int .i64 e) (.int .i64 s) 25).below (Below.nw _ (.cells #[.int .i64 m, .int .i64 e, .int .i64 s] 25))
  have J := Tx3.new (w1.alloc (.cells #[.int .i64 m, .int .i64 e, .int .i64 s] 25)) (.int .i64 m) (.int .i64 e) (.int .i64 s) 25
  simp only [World.size_alloc] at J
  go_upto_region 5 with fail
  replace B := B.trans (hb.mono B.size)
  replace HS : Hid (SrcC _ la (n * 2) (MFIval M)) := HS.out.below hb
  clear hb
  generalize (w1.alloc (.cells #[.int .i64 m, .int .i64 e, .int .i64 s] 25)).alloc (.cells #[.int .i64 m, .int .i64 e, .int .i64 s] 25) = w2 at *
  have hjl : w1.heap.size + 1 < w2.heap.size := J.1
  have HSTEP : Hid (∀ q a1 a2 a3 x0 x1, lrT M m e s q = (a1, a2, a3) → M q = (x0, x1) → (stC a1 a2 a3 x0 x1 = 0 → lrT M m e s (q + 1) = (stM a1 a2 a3 x0 x1, stE a1 a2 a3 x0 x1, stS a1 a2 a3 x0 x1)) ∧ (stC a1 a2 a3 x0 x1 ≠ 0 → lrT M m e s (q + 1) = (a1, a2, a3))) := fun q a1 a2 a3 x0 x1 h1 h2 => (lr_step M m e s q a1 a2 a3 x0 x1 h1 h2).2
  have HT0 : Hid (lrT M m e s 0 = (m, e, s)) := rfl
  have HLEN : Hid (∀ q, (lrC M m e s q).length = q) := lrC_len M m e s
  generalize w1.heap.size = jl at *
  generalize hjn : jl + 1 = jn at *
  have hln : jl < jn := by omega
  clear hjn
  have HB2 : Hid (Below w.heap.size w w2) := B
  have HI2 : Hid (Tx3 w2 jl (.int .i64 m) (.int .i64 e) (.int .i64 s)) := I
  have HJ2 : Hid (Tx3 w2 jn (.int .i64 m) (.int .i64 e) (.int .i64 s)) := J
  clear B I J
  go_wp2_with fail
  go_loopw [6] (fun i wr => ∃ (q : Nat) (a1 a2 a3 : Int), q ≤ n ∧ q ≤ 200 ∧ i = .int .i64 q ∧ lrT M m e s q = (a1, a2, a3) ∧ Tx3 wr jl (.int .i64 m) (.int .i64 e) (.int .i64 s) ∧ Tx3 wr jn (.int .i64 a1) (.int .i64 a2) (.int .i64 a3) ∧ SrcC wr la (n * 2) (MFIval M) ∧ Below w.heap.size w wr) (fun i _ => n - (intOf i).toNat)
  case atStart => exact ⟨0, m, e, s, Nat.zero_le _, by decide, rfl, HT0.out, HI2.out, HJ2.out, HS.out, HB2.out⟩
  case round =>
    clear HS HB2 HI2 HJ2
    obtain ⟨q, a1, a2, a3, hq, hq2, rfl, hT, I, J, hS, B⟩ := hrel
    have HS : Hid (SrcC wr la (n * 2) (MFIval M)) := hS
    clear hS
    by_cases hlt : q < n ∧ q < 200
    · obtain ⟨hl1, hl2⟩ := hlt
      have hli : (q : Int) < (n : Int) := by omega
      have hli2 : (q : Int) < 200 := by omega
      have HQ : Hid (q < n ∧ q < 200) := ⟨hl1, hl2⟩
      obtain ⟨x0, x1, hM⟩ := tupIval M q
      obtain ⟨b, off, rfl, hf⟩ : ∃ b off, la = some ⟨b, off, none⟩ ∧ Cs wr b off (n * 2) (MFIval M) := by
        rcases HS.out with r | r
        · exact absurd r (by omega)
        · exact r
      have hbb := hf.1
      obtain ⟨c0, c1⟩ := hf.elIval hl1 hM
      obtain ⟨st2, st3⟩ := HSTEP.out q a1 a2 a3 x0 x1 hT hM
      have HS2 : Hid (stC a1 a2 a3 x0 x1 = 0 → lrT M m e s (q + 1) = (stM a1 a2 a3 x0 x1, stE a1 a2 a3 x0 x1, stS a1 a2 a3 x0 x1)) := st2
      have HS3 : Hid (stC a1 a2 a3 x0 x1 ≠ 0 → lrT M m e s (q + 1) = (a1, a2, a3)) := st3
      have HNO : Hid (stC a1 a2 a3 x0 x1 = 2 → stM a1 a2 a3 x0 x1 = a1 ∧ stE a1 a2 a3 x0 x1 = a2 ∧ stS a1 a2 a3 x0 x1 = a3) := st_no
      have HDO : Hid (stC a1 a2 a3 x0 x1 = 0 → lmB a1 x0 = true ∧ ((x0 == 1) = (stE a1 a2 a3 x0 x1 - a2 == 1)) ∧ 0 ≤ stE a1 a2 a3 x0 x1 - a2 ∧ stE a1 a2 a3 x0 x1 - a2 ≤ 1 ∧ lfB (stM a1 a2 a3 x0 x1) (stE a1 a2 a3 x0 x1) (stS a1 a2 a3 x0 x1) = true ∧ 0 ≤ a2 ∧ a2 ≤ 100000) := st_done
      have CI := fun w' => implLifeStep_any a1 a2 a3 x0 x1 w'
      have CS := fun w' => specLifeStep_any a1 a2 a3 x0 x1 w'
      generalize stM a1 a2 a3 x0 x1 = AA at *
      generalize stE a1 a2 a3 x0 x1 = EE at *
      generalize stS a1 a2 a3 x0 x1 = SS at *
      generalize stC a1 a2 a3 x0 x1 = CC at *
      have hcc : (CC != CC) = false := by simp
      have SK : Hid (∀ w', Below wr.heap.size wr w' → (fun w' => w'.cell? ⟨jn, 0, none⟩ = some (.int .i64 a1) ∧ w'.cell? ⟨jn, 1, none⟩ = some (.int .i64 a2) ∧ w'.cell? ⟨jn, 2, none⟩ = some (.int .i64 a3) ∧ w'.cell? ⟨b, off + q * 2, none⟩ = some (.int .i64 x0) ∧ w'.cell? ⟨b, off + q * 2 + 1, none⟩ = some (.int .i64 x1)) w') := fun w' hw => ⟨(J.below hw).2.1, (J.below hw).2.2.1, (J.below hw).2.2.2.1, (by rw [hw.cell (p := ⟨b, off + q * 2, none⟩) hbb]; exact c0), (by rw [hw.cell (p := ⟨b, off + q * 2 + 1, none⟩) hbb]; exact c1)⟩
      clear st2 st3 hM hf hT hl1 hl2 hq hq2 HSTEP HLEN HT0 CRun
      go_upto_region 8 with fail
      go_cut [7, 8] (fun s7 s8 wx => ∃ j : Nat, s7 = .pointer (some ⟨j, 0, none⟩) ∧ s8 = .int .i64 CC ∧ Tx3 wx j (.int .i64 AA) (.int .i64 EE) (.int .i64 SS) ∧ wr.heap.size ≤ j ∧ Below wr.heap.size wr wx)
      case first => as_aux_lemma =>
        refine wp_region_held_drew (S := (fun w' => w'.cell? ⟨jn, 0, none⟩ = some (.int .i64 a1) ∧ w'.cell? ⟨jn, 1, none⟩ = some (.int .i64 a2) ∧ w'.cell? ⟨jn, 2, none⟩ = some (.int .i64 a3) ∧ w'.cell? ⟨b, off + q * 2, none⟩ = some (.int .i64 x0) ∧ w'.cell? ⟨b, off + q * 2 + 1, none⟩ = some (.int .i64 x1))) (by kernel_rfl) ?_ (fun hHeld => ?_)
        · first | exact SK.out _ XB | exact SK.out _ (Below.drew (Below.refl _ _)) | exact SK.out _ XZ
        have XB : Below wr.heap.size wr wr.drew := Below.drew (Below.refl _ _)
        generalize wr.drew = vx at *
        refine wpAnyH_take (i := 0) (v := ?_) (by rw [List.getElem?_toArray]; rfl) (by kernel_rfl) (by kernel_rfl) (by kernel_rfl) (by intro _ _ _ h; exact h) (Or.inl ⟨by rfl, ?_⟩) (by assumption) ?_
        rotate_left
        · (intro w hSw; (try dsimp only at hSw); go_simp; all_goals with_reducible rfl)
        (try simp only [Act.put, List.setIfInBounds_toArray, List.set_cons_zero, List.set_cons_succ])
        refine wpAnyH_take (i := 1) (v := ?_) (by rw [List.getElem?_toArray]; rfl) (by kernel_rfl) (by kernel_rfl) (by kernel_rfl) (by intro _ _ _ h; exact h) (Or.inl ⟨by rfl, ?_⟩) (by assumption) ?_
        rotate_left
        · (intro w hSw; (try dsimp only at hSw); go_simp; all_goals with_reducible rfl)
        (try simp only [Act.put, List.setIfInBounds_toArray, List.set_cons_zero, List.set_cons_succ])
        refine wpAnyH_take (i := 2) (v := ?_) (by rw [List.getElem?_toArray]; rfl) (by kernel_rfl) (by kernel_rfl) (by kernel_rfl) (by intro _ _ _ h; exact h) (Or.inl ⟨by rfl, ?_⟩) (by assumption) ?_
        rotate_left
        · (intro w hSw; (try dsimp only at hSw); go_simp; all_goals with_reducible rfl)
        (try simp only [Act.put, List.setIfInBounds_toArray, List.set_cons_zero, List.set_cons_succ])
        refine wpAnyH_take (i := 3) (v := ?_) (by rw [List.getElem?_toArray]; rfl) (by kernel_rfl) (by kernel_rfl) (by kernel_rfl) (by intro _ _ _ h; exact h) (Or.inl ⟨by rfl, ?_⟩) (by assumption) ?_
        rotate_left
        · (intro w hSw; (try dsimp only at hSw); go_simp; all_goals with_reducible rfl)
        (try simp only [Act.put, List.setIfInBounds_toArray, List.set_cons_zero, List.set_cons_succ])
        refine wpAnyH_take (i := 4) (v := ?_) (by rw [List.getElem?_toArray]; rfl) (by kernel_rfl) (by kernel_rfl) (by kernel_rfl) (by intro _ _ _ h; exact h) (Or.inl ⟨by rfl, ?_⟩) (by assumption) ?_
        rotate_left
        · (intro w hSw; (try dsimp only at hSw); go_simp; all_goals with_reducible rfl)
        (try simp only [Act.put, List.setIfInBounds_toArray, List.set_cons_zero, List.set_cons_succ])
        refine wpAnyH_ready (rs := [5, 9]) (by kernel_rfl) (by simp) ?_
        refine (AllReadyH.cons (by rw [List.getElem?_toArray]; rfl) (fun K hK => ?_) (AllReadyH.cons (by rw [List.getElem?_toArray]; rfl) (fun K hK => ?_) AllReadyH.nil))
        · go_simp
          refine (CI vx).mono ?_; rintro ee vx ⟨rfl, hbl⟩; (replace XB := XB.trans (hbl.mono XB.size)); (clear hbl)
          (try go_wp2_with fail)
          refine hK.out _ _ ?_ (fun hHeld => ?_)
          · first | exact SK.out _ XB | exact SK.out _ (Below.drew (Below.refl _ _)) | exact SK.out _ XZ
          clear hK K
          (try simp only [Act.put, List.setIfInBounds_toArray, List.set_cons_zero, List.set_cons_succ])
          refine wpAnyH_take (i := 6) (v := ?_) (by rw [List.getElem?_toArray]; rfl) (by kernel_rfl) (by kernel_rfl) (by kernel_rfl) (by intro _ _ _ h; exact h) (Or.inl ⟨by rfl, ?_⟩) (by assumption) ?_
          rotate_left
          · (intro w hSw; (try dsimp only at hSw); go_simp; all_goals with_reducible rfl)
          (try simp only [Act.put, List.setIfInBounds_toArray, List.set_cons_zero, List.set_cons_succ])
          refine wpAnyH_take (i := 7) (v := ?_) (by rw [List.getElem?_toArray]; rfl) (by kernel_rfl) (by kernel_rfl) (by kernel_rfl) (by intro _ _ _ h; exact h) (Or.inl ⟨by rfl, ?_⟩) (by assumption) ?_
          rotate_left
          · (intro w hSw; (try dsimp only at hSw); go_simp; all_goals with_reducible rfl)
          (try simp only [Act.put, List.setIfInBounds_toArray, List.set_cons_zero, List.set_cons_succ])
          refine wpAnyH_take (i := 8) (v := ?_) (by rw [List.getElem?_toArray]; rfl) (by kernel_rfl) (by kernel_rfl) (by kernel_rfl) (by intro _ _ _ h; exact h) (Or.inl ⟨by rfl, ?_⟩) (by assumption) ?_
          rotate_left
          · (intro w hSw; (try dsimp only at hSw); go_simp; all_goals with_reducible rfl)
          (try simp only [Act.put, List.setIfInBounds_toArray, List.set_cons_zero, List.set_cons_succ])
          refine wpAnyH_ready (rs := [9]) (by kernel_rfl) (by simp) ?_
          refine (AllReadyH.cons (by rw [List.getElem?_toArray]; rfl) (fun K hK => ?_) AllReadyH.nil)
          go_simp
          (have Z := Tx3.new vx (.int .i64 0) (.int .i64 0) (.int .i64 0) 25); (have NL := Below.nw vx (.cells #[.int .i64 0, .int .i64 0, .int .i64 0] 25)); (have hzv := XB.size); (replace XB := XB.trans (NL.mono XB.size)); (clear NL); (generalize vx.alloc (.cells #[.int .i64 0, .int .i64 0, .int .i64 0] 25) = vy at *); (generalize vx.heap.size = jz at *); (have XZ := ((XB.setCell (p := ⟨jz, 0, none⟩) hzv (.int .i64 AA)).setCell (p := ⟨jz, 1, none⟩) hzv (.int .i64 EE)).setCell (p := ⟨jz, 2, none⟩) hzv (.int .i64 SS)); (have ZZ := ((Z.set0 (.int .i64 AA)).set1 (.int .i64 EE)).set2 (.int .i64 SS)); (obtain ⟨z0, z1, z2, z3, z4, z5, z6⟩ := id Z)
          refine hK.out _ _ ?_ (fun hHeld => ?_)
          · first | exact SK.out _ XB | exact SK.out _ (Below.drew (Below.refl _ _)) | exact SK.out _ XZ
          clear hK K
          (try simp only [Act.put, List.setIfInBounds_toArray, List.set_cons_zero, List.set_cons_succ])
          refine wpAnyH_ready (rs := [10]) (by kernel_rfl) (by simp) ?_
          refine (AllReadyH.cons (by rw [List.getElem?_toArray]; rfl) (fun K hK => ?_) AllReadyH.nil)
          go_simp
          refine hK.out _ _ ?_ (fun hHeld => ?_)
          · first | exact SK.out _ XB | exact SK.out _ (Below.drew (Below.refl _ _)) | exact SK.out _ XZ
          clear hK K
          (try simp only [Act.put, List.setIfInBounds_toArray, List.set_cons_zero, List.set_cons_succ])
          refine wpAnyH_take (i := 11) (v := ?_) (by rw [List.getElem?_toArray]; rfl) (by kernel_rfl) (by kernel_rfl) (by kernel_rfl) (by intro _ _ _ h; exact h) (Or.inl ⟨by rfl, ?_⟩) (by assumption) ?_
          rotate_left
          · (intro w hSw; (try dsimp only at hSw); go_simp; all_goals with_reducible rfl)
          (try simp only [Act.put, List.setIfInBounds_toArray, List.set_cons_zero, List.set_cons_succ])
          refine wpAnyH_done (by kernel_rfl) ?_ _
          go_wp2_with fail
          go_meet
          case rel => exact ⟨jz, rfl, rfl, ZZ, hzv, XZ⟩
        · go_simp
          (have Z := Tx3.new vx (.int .i64 0) (.int .i64 0) (.int .i64 0) 25); (have NL := Below.nw vx (.cells #[.int .i64 0, .int .i64 0, .int .i64 0] 25)); (have hzv := XB.size); (replace XB := XB.trans (NL.mono XB.size)); (clear NL); (generalize vx.alloc (.cells #[.int .i64 0, .int .i64 0, .int .i64 0] 25) = vy at *); (generalize vx.heap.size = jz at *)
          refine hK.out _ _ ?_ (fun hHeld => ?_)
          · first | exact SK.out _ XB | exact SK.out _ (Below.drew (Below.refl _ _)) | exact SK.out _ XZ
          clear hK K
          (try simp only [Act.put, List.setIfInBounds_toArray, List.set_cons_zero, List.set_cons_succ])
          refine wpAnyH_ready (rs := [5]) (by kernel_rfl) (by simp) ?_
          refine (AllReadyH.cons (by rw [List.getElem?_toArray]; rfl) (fun K hK => ?_) AllReadyH.nil)
          go_simp
          refine (CI vy).mono ?_; rintro ee vx ⟨rfl, hbl⟩; (replace XB := XB.trans (hbl.mono XB.size)); (replace Z := Z.below hbl); (clear hbl); (have XZ := ((XB.setCell (p := ⟨jz, 0, none⟩) hzv (.int .i64 AA)).setCell (p := ⟨jz, 1, none⟩) hzv (.int .i64 EE)).setCell (p := ⟨jz, 2, none⟩) hzv (.int .i64 SS)); (have ZZ := ((Z.set0 (.int .i64 AA)).set1 (.int .i64 EE)).set2 (.int .i64 SS)); (obtain ⟨z0, z1, z2, z3, z4, z5, z6⟩ := id Z)
          (try go_wp2_with fail)
          refine hK.out _ _ ?_ (fun hHeld => ?_)
          · first | exact SK.out _ XB | exact SK.out _ (Below.drew (Below.refl _ _)) | exact SK.out _ XZ
          clear hK K
          (try simp only [Act.put, List.setIfInBounds_toArray, List.set_cons_zero, List.set_cons_succ])
          refine wpAnyH_take (i := 6) (v := ?_) (by rw [List.getElem?_toArray]; rfl) (by kernel_rfl) (by kernel_rfl) (by kernel_rfl) (by intro _ _ _ h; exact h) (Or.inl ⟨by rfl, ?_⟩) (by assumption) ?_
          rotate_left
          · (intro w hSw; (try dsimp only at hSw); go_simp; all_goals with_reducible rfl)
          (try simp only [Act.put, List.setIfInBounds_toArray, List.set_cons_zero, List.set_cons_succ])
          refine wpAnyH_take (i := 7) (v := ?_) (by rw [List.getElem?_toArray]; rfl) (by kernel_rfl) (by kernel_rfl) (by kernel_rfl) (by intro _ _ _ h; exact h) (Or.inl ⟨by rfl, ?_⟩) (by assumption) ?_
          rotate_left
          · (intro w hSw; (try dsimp only at hSw); go_simp; all_goals with_reducible rfl)
          (try simp only [Act.put, List.setIfInBounds_toArray, List.set_cons_zero, List.set_cons_succ])
          refine wpAnyH_take (i := 8) (v := ?_) (by rw [List.getElem?_toArray]; rfl) (by kernel_rfl) (by kernel_rfl) (by kernel_rfl) (by intro _ _ _ h; exact h) (Or.inl ⟨by rfl, ?_⟩) (by assumption) ?_
          rotate_left
          · (intro w hSw; (try dsimp only at hSw); go_simp; all_goals with_reducible rfl)
          (try simp only [Act.put, List.setIfInBounds_toArray, List.set_cons_zero, List.set_cons_succ])
          refine wpAnyH_ready (rs := [10]) (by kernel_rfl) (by simp) ?_
          refine (AllReadyH.cons (by rw [List.getElem?_toArray]; rfl) (fun K hK => ?_) AllReadyH.nil)
          go_simp
          refine hK.out _ _ ?_ (fun hHeld => ?_)
          · first | exact SK.out _ XB | exact SK.out _ (Below.drew (Below.refl _ _)) | exact SK.out _ XZ
          clear hK K
          (try simp only [Act.put, List.setIfInBounds_toArray, List.set_cons_zero, List.set_cons_succ])
          refine wpAnyH_take (i := 11) (v := ?_) (by rw [List.getElem?_toArray]; rfl) (by kernel_rfl) (by kernel_rfl) (by kernel_rfl) (by intro _ _ _ h; exact h) (Or.inl ⟨by rfl, ?_⟩) (by assumption) ?_
          rotate_left
          · (intro w hSw; (try dsimp only at hSw); go_simp; all_goals with_reducible rfl)
          (try simp only [Act.put, List.setIfInBounds_toArray, List.set_cons_zero, List.set_cons_succ])
          refine wpAnyH_done (by kernel_rfl) ?_ _
          go_wp2_with fail
          go_meet
          case rel => exact ⟨jz, rfl, rfl, ZZ, hzv, XZ⟩
      case rest =>
        obtain ⟨j7, rfl, rfl, Y, hj7, hb⟩ := hcut
        clear SK CI
        generalize wc = v1 at *
        have hnj : jn < j7 := by have := J.1; omega
        have c0' : v1.cell? ⟨b, off + q * 2, none⟩ = some (.int .i64 x0) := by rw [hb.cell (p := ⟨b, off + q * 2, none⟩) hbb]; exact c0
        have c1' : v1.cell? ⟨b, off + q * 2 + 1, none⟩ = some (.int .i64 x1) := by rw [hb.cell (p := ⟨b, off + q * 2 + 1, none⟩) hbb]; exact c1
        replace hbb : b < v1.heap.size := Nat.lt_of_lt_of_le hbb hb.size
        clear c0 c1
        have c0 := c0'
        have c1 := c1'
        clear c0' c1'
        replace B := B.trans (hb.mono B.size)
        replace I := I.below hb
        replace J := J.below hb
        replace HS : Hid (SrcC _ (some ⟨b, off, none⟩) (n * 2) (MFIval M)) := HS.out.below hb
        clear hb hj7
        have SK : Hid (∀ w', Below v1.heap.size v1 w' → (fun w' => w'.cell? ⟨jn, 0, none⟩ = some (.int .i64 a1) ∧ w'.cell? ⟨jn, 1, none⟩ = some (.int .i64 a2) ∧ w'.cell? ⟨jn, 2, none⟩ = some (.int .i64 a3) ∧ w'.cell? ⟨b, off + q * 2, none⟩ = some (.int .i64 x0) ∧ w'.cell? ⟨b, off + q * 2 + 1, none⟩ = some (.int .i64 x1)) w') := fun w' hw => ⟨(J.below hw).2.1, (J.below hw).2.2.1, (J.below hw).2.2.2.1, (by rw [hw.cell (p := ⟨b, off + q * 2, none⟩) hbb]; exact c0), (by rw [hw.cell (p := ⟨b, off + q * 2 + 1, none⟩) hbb]; exact c1)⟩
        go_upto_region 9 with fail
        go_cut [9, 10] (fun s9 s10 wx => ∃ j : Nat, s9 = .pointer (some ⟨j, 0, none⟩) ∧ s10 = .int .i64 CC ∧ Tx3 wx j (.int .i64 AA) (.int .i64 EE) (.int .i64 SS) ∧ v1.heap.size ≤ j ∧ Below v1.heap.size v1 wx)
        case first => as_aux_lemma =>
          refine wp_region_held_drew (S := (fun w' => w'.cell? ⟨jn, 0, none⟩ = some (.int .i64 a1) ∧ w'.cell? ⟨jn, 1, none⟩ = some (.int .i64 a2) ∧ w'.cell? ⟨jn, 2, none⟩ = some (.int .i64 a3) ∧ w'.cell? ⟨b, off + q * 2, none⟩ = some (.int .i64 x0) ∧ w'.cell? ⟨b, off + q * 2 + 1, none⟩ = some (.int .i64 x1))) (by kernel_rfl) ?_ (fun hHeld => ?_)
          · first | exact SK.out _ XB | exact SK.out _ (Below.drew (Below.refl _ _)) | exact SK.out _ XZ
          have XB : Below v1.heap.size v1 v1.drew := Below.drew (Below.refl _ _)
          generalize v1.drew = vx at *
          refine wpAnyH_take (i := 0) (v := ?_) (by rw [List.getElem?_toArray]; rfl) (by kernel_rfl) (by kernel_rfl) (by kernel_rfl) (by intro _ _ _ h; exact h) (Or.inl ⟨by rfl, ?_⟩) (by assumption) ?_
          rotate_left
          · (intro w hSw; (try dsimp only at hSw); go_simp; all_goals with_reducible rfl)
          (try simp only [Act.put, List.setIfInBounds_toArray, List.set_cons_zero, List.set_cons_succ])
          refine wpAnyH_take (i := 1) (v := ?_) (by rw [List.getElem?_toArray]; rfl) (by kernel_rfl) (by kernel_rfl) (by kernel_rfl) (by intro _ _ _ h; exact h) (Or.inl ⟨by rfl, ?_⟩) (by assumption) ?_
          rotate_left
          · (intro w hSw; (try dsimp only at hSw); go_simp; all_goals with_reducible rfl)
          (try simp only [Act.put, List.setIfInBounds_toArray, List.set_cons_zero, List.set_cons_succ])
          refine wpAnyH_take (i := 2) (v := ?_) (by rw [List.getElem?_toArray]; rfl) (by kernel_rfl) (by kernel_rfl) (by kernel_rfl) (by intro _ _ _ h; exact h) (Or.inl ⟨by rfl, ?_⟩) (by assumption) ?_
          rotate_left
          · (intro w hSw; (try dsimp only at hSw); go_simp; all_goals with_reducible rfl)
          (try simp only [Act.put, List.setIfInBounds_toArray, List.set_cons_zero, List.set_cons_succ])
          refine wpAnyH_take (i := 3) (v := ?_) (by rw [List.getElem?_toArray]; rfl) (by kernel_rfl) (by kernel_rfl) (by kernel_rfl) (by intro _ _ _ h; exact h) (Or.inl ⟨by rfl, ?_⟩) (by assumption) ?_
          rotate_left
          · (intro w hSw; (try dsimp only at hSw); go_simp; all_goals with_reducible rfl)
          (try simp only [Act.put, List.setIfInBounds_toArray, List.set_cons_zero, List.set_cons_succ])
          refine wpAnyH_take (i := 4) (v := ?_) (by rw [List.getElem?_toArray]; rfl) (by kernel_rfl) (by kernel_rfl) (by kernel_rfl) (by intro _ _ _ h; exact h) (Or.inl ⟨by rfl, ?_⟩) (by assumption) ?_
          rotate_left
          · (intro w hSw; (try dsimp only at hSw); go_simp; all_goals with_reducible rfl)
          (try simp only [Act.put, List.setIfInBounds_toArray, List.set_cons_zero, List.set_cons_succ])
          refine wpAnyH_ready (rs := [5, 9]) (by kernel_rfl) (by simp) ?_
          refine (AllReadyH.cons (by rw [List.getElem?_toArray]; rfl) (fun K hK => ?_) (AllReadyH.cons (by rw [List.getElem?_toArray]; rfl) (fun K hK => ?_) AllReadyH.nil))
          · go_simp
            refine (CS vx).mono ?_; rintro ee vx ⟨rfl, hbl⟩; (replace XB := XB.trans (hbl.mono XB.size)); (clear hbl)
            (try go_wp2_with fail)
            refine hK.out _ _ ?_ (fun hHeld => ?_)
            · first | exact SK.out _ XB | exact SK.out _ (Below.drew (Below.refl _ _)) | exact SK.out _ XZ
            clear hK K
            (try simp only [Act.put, List.setIfInBounds_toArray, List.set_cons_zero, List.set_cons_succ])
            refine wpAnyH_take (i := 6) (v := ?_) (by rw [List.getElem?_toArray]; rfl) (by kernel_rfl) (by kernel_rfl) (by kernel_rfl) (by intro _ _ _ h; exact h) (Or.inl ⟨by rfl, ?_⟩) (by assumption) ?_
            rotate_left
            · (intro w hSw; (try dsimp only at hSw); go_simp; all_goals with_reducible rfl)
            (try simp only [Act.put, List.setIfInBounds_toArray, List.set_cons_zero, List.set_cons_succ])
            refine wpAnyH_take (i := 7) (v := ?_) (by rw [List.getElem?_toArray]; rfl) (by kernel_rfl) (by kernel_rfl) (by kernel_rfl) (by intro _ _ _ h; exact h) (Or.inl ⟨by rfl, ?_⟩) (by assumption) ?_
            rotate_left
            · (intro w hSw; (try dsimp only at hSw); go_simp; all_goals with_reducible rfl)
            (try simp only [Act.put, List.setIfInBounds_toArray, List.set_cons_zero, List.set_cons_succ])
            refine wpAnyH_take (i := 8) (v := ?_) (by rw [List.getElem?_toArray]; rfl) (by kernel_rfl) (by kernel_rfl) (by kernel_rfl) (by intro _ _ _ h; exact h) (Or.inl ⟨by rfl, ?_⟩) (by assumption) ?_
            rotate_left
            · (intro w hSw; (try dsimp only at hSw); go_simp; all_goals with_reducible rfl)
            (try simp only [Act.put, List.setIfInBounds_toArray, List.set_cons_zero, List.set_cons_succ])
            refine wpAnyH_ready (rs := [9]) (by kernel_rfl) (by simp) ?_
            refine (AllReadyH.cons (by rw [List.getElem?_toArray]; rfl) (fun K hK => ?_) AllReadyH.nil)
            go_simp
            (have Z := Tx3.new vx (.int .i64 0) (.int .i64 0) (.int .i64 0) 25); (have NL := Below.nw vx (.cells #[.int .i64 0, .int .i64 0, .int .i64 0] 25)); (have hzv := XB.size); (replace XB := XB.trans (NL.mono XB.size)); (clear NL); (generalize vx.alloc (.cells #[.int .i64 0, .int .i64 0, .int .i64 0] 25) = vy at *); (generalize vx.heap.size = jz at *); (have XZ := ((XB.setCell (p := ⟨jz, 0, none⟩) hzv (.int .i64 AA)).setCell (p := ⟨jz, 1, none⟩) hzv (.int .i64 EE)).setCell (p := ⟨jz, 2, none⟩) hzv (.int .i64 SS)); (have ZZ := ((Z.set0 (.int .i64 AA)).set1 (.int .i64 EE)).set2 (.int .i64 SS)); (obtain ⟨z0, z1, z2, z3, z4, z5, z6⟩ := id Z)
            refine hK.out _ _ ?_ (fun hHeld => ?_)
            · first | exact SK.out _ XB | exact SK.out _ (Below.drew (Below.refl _ _)) | exact SK.out _ XZ
            clear hK K
            (try simp only [Act.put, List.setIfInBounds_toArray, List.set_cons_zero, List.set_cons_succ])
            refine wpAnyH_ready (rs := [10]) (by kernel_rfl) (by simp) ?_
            refine (AllReadyH.cons (by rw [List.getElem?_toArray]; rfl) (fun K hK => ?_) AllReadyH.nil)
            go_simp
            refine hK.out _ _ ?_ (fun hHeld => ?_)
            · first | exact SK.out _ XB | exact SK.out _ (Below.drew (Below.refl _ _)) | exact SK.out _ XZ
            clear hK K
            (try simp only [Act.put, List.setIfInBounds_toArray, List.set_cons_zero, List.set_cons_succ])
            refine wpAnyH_take (i := 11) (v := ?_) (by rw [List.getElem?_toArray]; rfl) (by kernel_rfl) (by kernel_rfl) (by kernel_rfl) (by intro _ _ _ h; exact h) (Or.inl ⟨by rfl, ?_⟩) (by assumption) ?_
            rotate_left
            · (intro w hSw; (try dsimp only at hSw); go_simp; all_goals with_reducible rfl)
            (try simp only [Act.put, List.setIfInBounds_toArray, List.set_cons_zero, List.set_cons_succ])
            refine wpAnyH_done (by kernel_rfl) ?_ _
            go_wp2_with fail
            go_meet
            case rel => exact ⟨jz, rfl, rfl, ZZ, hzv, XZ⟩
          · go_simp
            (have Z := Tx3.new vx (.int .i64 0) (.int .i64 0) (.int .i64 0) 25); (have NL := Below.nw vx (.cells #[.int .i64 0, .int .i64 0, .int .i64 0] 25)); (have hzv := XB.size); (replace XB := XB.trans (NL.mono XB.size)); (clear NL); (generalize vx.alloc (.cells #[.int .i64 0, .int .i64 0, .int .i64 0] 25) = vy at *); (generalize vx.heap.size = jz at *)
            refine hK.out _ _ ?_ (fun hHeld => ?_)
            · first | exact SK.out _ XB | exact SK.out _ (Below.drew (Below.refl _ _)) | exact SK.out _ XZ
            clear hK K
            (try simp only [Act.put, List.setIfInBounds_toArray, List.set_cons_zero, List.set_cons_succ])
            refine wpAnyH_ready (rs := [5]) (by kernel_rfl) (by simp) ?_
            refine (AllReadyH.cons (by rw [List.getElem?_toArray]; rfl) (fun K hK => ?_) AllReadyH.nil)
            go_simp
            refine (CS vy).mono ?_; rintro ee vx ⟨rfl, hbl⟩; (replace XB := XB.trans (hbl.mono XB.size)); (replace Z := Z.below hbl); (clear hbl); (have XZ := ((XB.setCell (p := ⟨jz, 0, none⟩) hzv (.int .i64 AA)).setCell (p := ⟨jz, 1, none⟩) hzv (.int .i64 EE)).setCell (p := ⟨jz, 2, none⟩) hzv (.int .i64 SS)); (have ZZ := ((Z.set0 (.int .i64 AA)).set1 (.int .i64 EE)).set2 (.int .i64 SS)); (obtain ⟨z0, z1, z2, z3, z4, z5, z6⟩ := id Z)
            (try go_wp2_with fail)
            refine hK.out _ _ ?_ (fun hHeld => ?_)
            · first | exact SK.out _ XB | exact SK.out _ (Below.drew (Below.refl _ _)) | exact SK.out _ XZ
            clear hK K
            (try simp only [Act.put, List.setIfInBounds_toArray, List.set_cons_zero, List.set_cons_succ])
            refine wpAnyH_take (i := 6) (v := ?_) (by rw [List.getElem?_toArray]; rfl) (by kernel_rfl) (by kernel_rfl) (by kernel_rfl) (by intro _ _ _ h; exact h) (Or.inl ⟨by rfl, ?_⟩) (by assumption) ?_
            rotate_left
            · (intro w hSw; (try dsimp only at hSw); go_simp; all_goals with_reducible rfl)
            (try simp only [Act.put, List.setIfInBounds_toArray, List.set_cons_zero, List.set_cons_succ])
            refine wpAnyH_take (i := 7) (v := ?_) (by rw [List.getElem?_toArray]; rfl) (by kernel_rfl) (by kernel_rfl) (by kernel_rfl) (by intro _ _ _ h; exact h) (Or.inl ⟨by rfl, ?_⟩) (by assumption) ?_
            rotate_left
            · (intro w hSw; (try dsimp only at hSw); go_simp; all_goals with_reducible rfl)
            (try simp only [Act.put, List.setIfInBounds_toArray, List.set_cons_zero, List.set_cons_succ])
            refine wpAnyH_take (i := 8) (v := ?_) (by rw [List.getElem?_toArray]; rfl) (by kernel_rfl) (by kernel_rfl) (by kernel_rfl) (by intro _ _ _ h; exact h) (Or.inl ⟨by rfl, ?_⟩) (by assumption) ?_
            rotate_left
            · (intro w hSw; (try dsimp only at hSw); go_simp; all_goals with_reducible rfl)
            (try simp only [Act.put, List.setIfInBounds_toArray, List.set_cons_zero, List.set_cons_succ])
            refine wpAnyH_ready (rs := [10]) (by kernel_rfl) (by simp) ?_
            refine (AllReadyH.cons (by rw [List.getElem?_toArray]; rfl) (fun K hK => ?_) AllReadyH.nil)
            go_simp
            refine hK.out _ _ ?_ (fun hHeld => ?_)
            · first | exact SK.out _ XB | exact SK.out _ (Below.drew (Below.refl _ _)) | exact SK.out _ XZ
            clear hK K
            (try simp only [Act.put, List.setIfInBounds_toArray, List.set_cons_zero, List.set_cons_succ])
            refine wpAnyH_take (i := 11) (v := ?_) (by rw [List.getElem?_toArray]; rfl) (by kernel_rfl) (by kernel_rfl) (by kernel_rfl) (by intro _ _ _ h; exact h) (Or.inl ⟨by rfl, ?_⟩) (by assumption) ?_
            rotate_left
            · (intro w hSw; (try dsimp only at hSw); go_simp; all_goals with_reducible rfl)
            (try simp only [Act.put, List.setIfInBounds_toArray, List.set_cons_zero, List.set_cons_succ])
            refine wpAnyH_done (by kernel_rfl) ?_ _
            go_wp2_with fail
            go_meet
            case rel => exact ⟨jz, rfl, rfl, ZZ, hzv, XZ⟩
        case rest =>
          obtain ⟨j9, rfl, rfl, _, _, hb⟩ := hcut
          clear SK CS
          generalize wc = v2 at *
          have c0' : v2.cell? ⟨b, off + q * 2, none⟩ = some (.int .i64 x0) := by rw [hb.cell (p := ⟨b, off + q * 2, none⟩) hbb]; exact c0
          have c1' : v2.cell? ⟨b, off + q * 2 + 1, none⟩ = some (.int .i64 x1) := by rw [hb.cell (p := ⟨b, off + q * 2 + 1, none⟩) hbb]; exact c1
          replace hbb : b < v2.heap.size := Nat.lt_of_lt_of_le hbb hb.size
          clear c0 c1
          have c0 := c0'
          have c1 := c1'
          clear c0' c1'
          replace Y := Y.below hb
          replace B := B.trans (hb.mono B.size)
          replace I := I.below hb
          replace J := J.below hb
          replace HS : Hid (SrcC _ (some ⟨b, off, none⟩) (n * 2) (MFIval M)) := HS.out.below hb
          clear hb
          by_cases hz : CC = 0
          rotate_left
          · have hq0 : (CC != 0) = true := by simp [hz]
            have HL : Hid (lrT M m e s (q + 1) = (a1, a2, a3)) := HS3.out hz
            have HREL : Hid (Tx3 v2 jl (.int .i64 m) (.int .i64 e) (.int .i64 s) ∧ Tx3 v2 jn (.int .i64 a1) (.int .i64 a2) (.int .i64 a3) ∧ Below w.heap.size w v2) := ⟨I, J, B⟩
            by_cases h2 : CC = 2
            · have hq2 : (CC == 2) = true := by simp [h2]
              obtain ⟨q1, q2, q3⟩ := HNO.out h2
              subst q1 q2 q3
              clear hz h2 HS2 HS3 HNO HDO
              obtain ⟨y0, y1, y2, y3, y4, y5, y6⟩ := Y
              obtain ⟨i0, i1, i2, i3, i4, i5, i6⟩ := J
              clear I B c0 c1
              go_wp2_with fail
              clear y0 y1 y2 y3 y4 y5 y6 i0 i1 i2 i3 i4 i5 i6
              go_roundw
              case rel => exact ⟨q + 1, _, _, _, HQ.out.1, HQ.out.2, by go_num, HL.out, HREL.out.1, HREL.out.2.1, HS.out, HREL.out.2.2⟩
              case measure => have hlt' := HQ.out.1; simp [intOf]; omega
            · have hq2 : (CC == 2) = false := by simp [h2]
              clear hz h2 HS2 HS3 HNO HDO I J B Y c0 c1
              go_wp2_with fail
              go_roundw
              case rel => exact ⟨q + 1, _, _, _, HQ.out.1, HQ.out.2, by go_num, HL.out, HREL.out.1, HREL.out.2.1, HS.out, HREL.out.2.2⟩
              case measure => have hlt' := HQ.out.1; simp [intOf]; omega
          have hq0 : (CC != 0) = false := by simp [hz]
          obtain ⟨f1, f2, f3, f4, f5, f6, f7⟩ := HDO.out hz
          have HL : Hid (lrT M m e s (q + 1) = (AA, EE, SS)) := HS2.out hz
          clear hz HS2 HS3 HNO HDO
          have hw1 : wrap64 (EE - a2) = EE - a2 := Go.IntWalk.wrap64_in _ ⟨by omega, by omega⟩
          have hw2 : IntKind.i64.wrap (EE - a2) = EE - a2 := Go.IntWalk.i64_in _ ⟨by omega, by omega⟩
          have CMay := fun w' => implLifeMay_any a1 x0 w'
          have COk := fun w' => implLifeOk_any AA EE SS w'
          have CKn := fun w' => implLifeKnows_any AA EE SS w'
          have CSe := fun w' => implLifeSends_any AA EE SS w'
          have CNm := fun w' => implLifeName_any AA w'
          rw [f1] at CMay
          rw [f5] at COk
          rw [kn_hold AA EE SS f5] at CKn
          have hu2 : decide (EE - a2 < 0) = false := decide_eq_false (by omega)
          have hu3 : decide (1 < EE - a2) = false := decide_eq_false (by omega)
          have HF2 : Hid ((x0 == 1) = (EE - a2 == 1)) := f2
          clear f1 f2 f3 f4 f5 f6 f7
          obtain ⟨y0, y1, y2, y3, y4, y5, y6⟩ := id Y
          obtain ⟨i0, i1, i2, i3, i4, i5, i6⟩ := id J
          go_upto_region 16 with fail
          clear y0 y1 y2 y3 y4 y5 y6 i0 i1 i2 i3 i4 i5 i6 hw1 hw2
          generalize EE - a2 = up at *
          have SK : Hid (∀ w', Below v2.heap.size v2 w' → (fun w' => w'.cell? ⟨jn, 0, none⟩ = some (.int .i64 a1) ∧ w'.cell? ⟨jn, 1, none⟩ = some (.int .i64 a2) ∧ w'.cell? ⟨jn, 2, none⟩ = some (.int .i64 a3) ∧ w'.cell? ⟨j7, 0, none⟩ = some (.int .i64 AA) ∧ w'.cell? ⟨j7, 1, none⟩ = some (.int .i64 EE) ∧ w'.cell? ⟨j7, 2, none⟩ = some (.int .i64 SS) ∧ w'.cell? ⟨b, off + q * 2, none⟩ = some (.int .i64 x0) ∧ w'.cell? ⟨b, off + q * 2 + 1, none⟩ = some (.int .i64 x1)) w') := fun w' hw => ⟨(J.below hw).2.1, (J.below hw).2.2.1, (J.below hw).2.2.2.1, (Y.below hw).2.1, (Y.below hw).2.2.1, (Y.below hw).2.2.2.1, (by rw [hw.cell (p := ⟨b, off + q * 2, none⟩) hbb]; exact c0), (by rw [hw.cell (p := ⟨b, off + q * 2 + 1, none⟩) hbb]; exact c1)⟩
          go_cut [99] (fun s99 wx => s99 = .bool false ∧ Below v2.heap.size v2 wx)
          case first => as_aux_lemma =>
            cases hkb : (x0 == 1)
            · have hu1 : (up == 1) = false := HF2.out.symm.trans hkb
              refine wp_region_held_drew (S := (fun w' => w'.cell? ⟨jn, 0, none⟩ = some (.int .i64 a1) ∧ w'.cell? ⟨jn, 1, none⟩ = some (.int .i64 a2) ∧ w'.cell? ⟨jn, 2, none⟩ = some (.int .i64 a3) ∧ w'.cell? ⟨j7, 0, none⟩ = some (.int .i64 AA) ∧ w'.cell? ⟨j7, 1, none⟩ = some (.int .i64 EE) ∧ w'.cell? ⟨j7, 2, none⟩ = some (.int .i64 SS) ∧ w'.cell? ⟨b, off + q * 2, none⟩ = some (.int .i64 x0) ∧ w'.cell? ⟨b, off + q * 2 + 1, none⟩ = some (.int .i64 x1))) (by kernel_rfl) ?_ (fun hHeld => ?_)
              · first | exact SK.out _ XB | exact SK.out _ (Below.drew (Below.refl _ _))
              have XB : Below v2.heap.size v2 v2.drew := Below.drew (Below.refl _ _)
              generalize v2.drew = vx at *
              refine wpAnyH_take (i := 0) (v := ?_) (by rw [List.getElem?_toArray]; rfl) (by kernel_rfl) (by kernel_rfl) (by kernel_rfl) (by intro _ _ _ h; exact h) (Or.inl ⟨by rfl, ?_⟩) (by assumption) ?_
              rotate_left
              · (intro w hSw; (try dsimp only at hSw); go_simp; all_goals with_reducible rfl)
              (try simp only [Act.put, List.setIfInBounds_toArray, List.set_cons_zero, List.set_cons_succ])
              refine wpAnyH_take (i := 1) (v := ?_) (by rw [List.getElem?_toArray]; rfl) (by kernel_rfl) (by kernel_rfl) (by kernel_rfl) (by intro _ _ _ h; exact h) (Or.inl ⟨by rfl, ?_⟩) (by assumption) ?_
              rotate_left
              · (intro w hSw; (try dsimp only at hSw); go_simp; all_goals with_reducible rfl)
              (try simp only [Act.put, List.setIfInBounds_toArray, List.set_cons_zero, List.set_cons_succ])
              refine wpAnyH_take (i := 2) (v := ?_) (by rw [List.getElem?_toArray]; rfl) (by kernel_rfl) (by kernel_rfl) (by kernel_rfl) (by intro _ _ _ h; exact h) (Or.inl ⟨by rfl, ?_⟩) (by assumption) ?_
              rotate_left
              · (intro w hSw; (try dsimp only at hSw); go_simp; all_goals with_reducible rfl)
              (try simp only [Act.put, List.setIfInBounds_toArray, List.set_cons_zero, List.set_cons_succ])
              refine wpAnyH_take (i := 3) (v := ?_) (by rw [List.getElem?_toArray]; rfl) (by kernel_rfl) (by kernel_rfl) (by kernel_rfl) (by intro _ _ _ h; exact h) (Or.inl ⟨by rfl, ?_⟩) (by assumption) ?_
              rotate_left
              · (intro w hSw; (try dsimp only at hSw); go_simp; all_goals with_reducible rfl)
              (try simp only [Act.put, List.setIfInBounds_toArray, List.set_cons_zero, List.set_cons_succ])
              refine wpAnyH_take (i := 4) (v := ?_) (by rw [List.getElem?_toArray]; rfl) (by kernel_rfl) (by kernel_rfl) (by kernel_rfl) (by intro _ _ _ h; exact h) (Or.inl ⟨by rfl, ?_⟩) (by assumption) ?_
              rotate_left
              · (intro w hSw; (try dsimp only at hSw); go_simp; all_goals with_reducible rfl)
              (try simp only [Act.put, List.setIfInBounds_toArray, List.set_cons_zero, List.set_cons_succ])
              refine wpAnyH_take (i := 5) (v := ?_) (by rw [List.getElem?_toArray]; rfl) (by kernel_rfl) (by kernel_rfl) (by kernel_rfl) (by intro _ _ _ h; exact h) (Or.inl ⟨by rfl, ?_⟩) (by assumption) ?_
              rotate_left
              · (intro w hSw; (try dsimp only at hSw); go_simp; all_goals with_reducible rfl)
              (try simp only [Act.put, List.setIfInBounds_toArray, List.set_cons_zero, List.set_cons_succ])
              refine wpAnyH_take (i := 6) (v := ?_) (by rw [List.getElem?_toArray]; rfl) (by kernel_rfl) (by kernel_rfl) (by kernel_rfl) (by intro _ _ _ h; exact h) (Or.inl ⟨by rfl, ?_⟩) (by assumption) ?_
              rotate_left
              · (intro w hSw; (try dsimp only at hSw); go_simp; all_goals with_reducible rfl)
              (try simp only [Act.put, List.setIfInBounds_toArray, List.set_cons_zero, List.set_cons_succ])
              refine wpAnyH_ready (rs := [7]) (by kernel_rfl) (by simp) ?_
              refine AllReadyH.cons (by rw [List.getElem?_toArray]; rfl) (fun K hK => ?_) AllReadyH.nil
              go_simp
              refine (CMay vx).mono ?_; rintro ee vx ⟨rfl, hbl⟩; (replace XB := XB.trans (hbl.mono XB.size)); (clear hbl)
              (try go_wp2_with fail)
              refine hK.out _ _ ?_ (fun hHeld => ?_)
              · first | exact SK.out _ XB | exact SK.out _ (Below.drew (Below.refl _ _))
              clear hK K
              (try simp only [Act.put, List.setIfInBounds_toArray, List.set_cons_zero, List.set_cons_succ])
              refine wpAnyH_take (i := 8) (v := ?_) (by rw [List.getElem?_toArray]; rfl) (by kernel_rfl) (by kernel_rfl) (by kernel_rfl) (by intro _ _ _ h; exact h) (Or.inl ⟨by rfl, ?_⟩) (by assumption) ?_
              rotate_left
              · (intro w hSw; (try dsimp only at hSw); go_simp; all_goals with_reducible rfl)
              (try simp only [Act.put, List.setIfInBounds_toArray, List.set_cons_zero, List.set_cons_succ])
              refine wpAnyH_take (i := 9) (v := ?_) (by rw [List.getElem?_toArray]; rfl) (by kernel_rfl) (by kernel_rfl) (by kernel_rfl) (by intro _ _ _ h; exact h) (Or.inl ⟨by rfl, ?_⟩) (by assumption) ?_
              rotate_left
              · (intro w hSw; (try dsimp only at hSw); go_simp; all_goals with_reducible rfl)
              (try simp only [Act.put, List.setIfInBounds_toArray, List.set_cons_zero, List.set_cons_succ])
              refine wpAnyH_take (i := 10) (v := ?_) (by rw [List.getElem?_toArray]; rfl) (by kernel_rfl) (by kernel_rfl) (by kernel_rfl) (by intro _ _ _ h; exact h) (Or.inl ⟨by rfl, ?_⟩) (by assumption) ?_
              rotate_left
              · (intro w hSw; (try dsimp only at hSw); go_simp; all_goals with_reducible rfl)
              (try simp only [Act.put, List.setIfInBounds_toArray, List.set_cons_zero, List.set_cons_succ])
              refine wpAnyH_take (i := 11) (v := ?_) (by rw [List.getElem?_toArray]; rfl) (by kernel_rfl) (by kernel_rfl) (by kernel_rfl) (by intro _ _ _ h; exact h) (Or.inl ⟨by rfl, ?_⟩) (by assumption) ?_
              rotate_left
              · (intro w hSw; (try dsimp only at hSw); go_simp; all_goals with_reducible rfl)
              (try simp only [Act.put, List.setIfInBounds_toArray, List.set_cons_zero, List.set_cons_succ])
              refine wpAnyH_take (i := 12) (v := ?_) (by rw [List.getElem?_toArray]; rfl) (by kernel_rfl) (by kernel_rfl) (by kernel_rfl) (by intro _ _ _ h; exact h) (Or.inl ⟨by rfl, ?_⟩) (by assumption) ?_
              rotate_left
              · (intro w hSw; (try dsimp only at hSw); go_simp; all_goals with_reducible rfl)
              (try simp only [Act.put, List.setIfInBounds_toArray, List.set_cons_zero, List.set_cons_succ])
              refine wpAnyH_take (i := 13) (v := ?_) (by rw [List.getElem?_toArray]; rfl) (by kernel_rfl) (by kernel_rfl) (by kernel_rfl) (by intro _ _ _ h; exact h) (Or.inl ⟨by rfl, ?_⟩) (by assumption) ?_
              rotate_left
              · (intro w hSw; (try dsimp only at hSw); go_simp; all_goals with_reducible rfl)
              (try simp only [Act.put, List.setIfInBounds_toArray, List.set_cons_zero, List.set_cons_succ])
              refine wpAnyH_take (i := 14) (v := ?_) (by rw [List.getElem?_toArray]; rfl) (by kernel_rfl) (by kernel_rfl) (by kernel_rfl) (by intro _ _ _ h; exact h) (Or.inl ⟨by rfl, ?_⟩) (by assumption) ?_
              rotate_left
              · (intro w hSw; (try dsimp only at hSw); go_simp; all_goals with_reducible rfl)
              (try simp only [Act.put, List.setIfInBounds_toArray, List.set_cons_zero, List.set_cons_succ])
              refine wpAnyH_take (i := 15) (v := ?_) (by rw [List.getElem?_toArray]; rfl) (by kernel_rfl) (by kernel_rfl) (by kernel_rfl) (by intro _ _ _ h; exact h) (Or.inl ⟨by rfl, ?_⟩) (by assumption) ?_
              rotate_left
              · (intro w hSw; (try dsimp only at hSw); go_simp; all_goals with_reducible rfl)
              (try simp only [Act.put, List.setIfInBounds_toArray, List.set_cons_zero, List.set_cons_succ])
              (try simp only [hkb])
              refine wpAnyH_take (i := 16) (v := ?_) (by rw [List.getElem?_toArray]; rfl) (by kernel_rfl) (by kernel_rfl) (by kernel_rfl) (by intro _ _ _ h; exact h) (Or.inl ⟨by rfl, ?_⟩) (by assumption) ?_
              rotate_left
              · (intro w hSw; (try dsimp only at hSw); go_simp; all_goals with_reducible rfl)
              (try simp only [Act.put, List.setIfInBounds_toArray, List.set_cons_zero, List.set_cons_succ])
              refine wpAnyH_take (i := 17) (v := ?_) (by rw [List.getElem?_toArray]; rfl) (by kernel_rfl) (by kernel_rfl) (by kernel_rfl) (by intro _ _ _ h; exact h) (Or.inl ⟨by rfl, ?_⟩) (by assumption) ?_
              rotate_left
              · (intro w hSw; (try dsimp only at hSw); go_simp; all_goals with_reducible rfl)
              (try simp only [Act.put, List.setIfInBounds_toArray, List.set_cons_zero, List.set_cons_succ])
              (try simp only [hu1])
              refine wpAnyH_take (i := 18) (v := ?_) (by rw [List.getElem?_toArray]; rfl) (by kernel_rfl) (by kernel_rfl) (by kernel_rfl) (by intro _ _ _ h; exact h) (Or.inl ⟨by rfl, ?_⟩) (by assumption) ?_
              rotate_left
              · (intro w hSw; (try dsimp only at hSw); go_simp; all_goals with_reducible rfl)
              (try simp only [Act.put, List.setIfInBounds_toArray, List.set_cons_zero, List.set_cons_succ])
              refine wpAnyH_take (i := 19) (v := ?_) (by rw [List.getElem?_toArray]; rfl) (by kernel_rfl) (by kernel_rfl) (by kernel_rfl) (by intro _ _ _ h; exact h) (Or.inl ⟨by rfl, ?_⟩) (by assumption) ?_
              rotate_left
              · (intro w hSw; (try dsimp only at hSw); go_simp; all_goals with_reducible rfl)
              (try simp only [Act.put, List.setIfInBounds_toArray, List.set_cons_zero, List.set_cons_succ])
              refine wpAnyH_take (i := 20) (v := ?_) (by rw [List.getElem?_toArray]; rfl) (by kernel_rfl) (by kernel_rfl) (by kernel_rfl) (by intro _ _ _ h; exact h) (Or.inl ⟨by rfl, ?_⟩) (by assumption) ?_
              rotate_left
              · (intro w hSw; (try dsimp only at hSw); go_simp; all_goals with_reducible rfl)
              (try simp only [Act.put, List.setIfInBounds_toArray, List.set_cons_zero, List.set_cons_succ])
              refine wpAnyH_take (i := 21) (v := ?_) (by rw [List.getElem?_toArray]; rfl) (by kernel_rfl) (by kernel_rfl) (by kernel_rfl) (by intro _ _ _ h; exact h) (Or.inl ⟨by rfl, ?_⟩) (by assumption) ?_
              rotate_left
              · (intro w hSw; (try dsimp only at hSw); go_simp; all_goals with_reducible rfl)
              (try simp only [Act.put, List.setIfInBounds_toArray, List.set_cons_zero, List.set_cons_succ])
              refine wpAnyH_take (i := 22) (v := ?_) (by rw [List.getElem?_toArray]; rfl) (by kernel_rfl) (by kernel_rfl) (by kernel_rfl) (by intro _ _ _ h; exact h) (Or.inl ⟨by rfl, ?_⟩) (by assumption) ?_
              rotate_left
              · (intro w hSw; (try dsimp only at hSw); go_simp; all_goals with_reducible rfl)
              (try simp only [Act.put, List.setIfInBounds_toArray, List.set_cons_zero, List.set_cons_succ])
              (try simp only [hu2])
              refine wpAnyH_take (i := 23) (v := ?_) (by rw [List.getElem?_toArray]; rfl) (by kernel_rfl) (by kernel_rfl) (by kernel_rfl) (by intro _ _ _ h; exact h) (Or.inl ⟨by rfl, ?_⟩) (by assumption) ?_
              rotate_left
              · (intro w hSw; (try dsimp only at hSw); go_simp; all_goals with_reducible rfl)
              (try simp only [Act.put, List.setIfInBounds_toArray, List.set_cons_zero, List.set_cons_succ])
              refine wpAnyH_take (i := 24) (v := ?_) (by rw [List.getElem?_toArray]; rfl) (by kernel_rfl) (by kernel_rfl) (by kernel_rfl) (by intro _ _ _ h; exact h) (Or.inl ⟨by rfl, ?_⟩) (by assumption) ?_
              rotate_left
              · (intro w hSw; (try dsimp only at hSw); go_simp; all_goals with_reducible rfl)
              (try simp only [Act.put, List.setIfInBounds_toArray, List.set_cons_zero, List.set_cons_succ])
              refine wpAnyH_take (i := 25) (v := ?_) (by rw [List.getElem?_toArray]; rfl) (by kernel_rfl) (by kernel_rfl) (by kernel_rfl) (by intro _ _ _ h; exact h) (Or.inl ⟨by rfl, ?_⟩) (by assumption) ?_
              rotate_left
              · (intro w hSw; (try dsimp only at hSw); go_simp; all_goals with_reducible rfl)
              (try simp only [Act.put, List.setIfInBounds_toArray, List.set_cons_zero, List.set_cons_succ])
              refine wpAnyH_take (i := 26) (v := ?_) (by rw [List.getElem?_toArray]; rfl) (by kernel_rfl) (by kernel_rfl) (by kernel_rfl) (by intro _ _ _ h; exact h) (Or.inl ⟨by rfl, ?_⟩) (by assumption) ?_
              rotate_left
              · (intro w hSw; (try dsimp only at hSw); go_simp; all_goals with_reducible rfl)
              (try simp only [Act.put, List.setIfInBounds_toArray, List.set_cons_zero, List.set_cons_succ])
              (try simp only [hu3])
              refine wpAnyH_take (i := 27) (v := ?_) (by rw [List.getElem?_toArray]; rfl) (by kernel_rfl) (by kernel_rfl) (by kernel_rfl) (by intro _ _ _ h; exact h) (Or.inl ⟨by rfl, ?_⟩) (by assumption) ?_
              rotate_left
              · (intro w hSw; (try dsimp only at hSw); go_simp; all_goals with_reducible rfl)
              (try simp only [Act.put, List.setIfInBounds_toArray, List.set_cons_zero, List.set_cons_succ])
              refine wpAnyH_take (i := 28) (v := ?_) (by rw [List.getElem?_toArray]; rfl) (by kernel_rfl) (by kernel_rfl) (by kernel_rfl) (by intro _ _ _ h; exact h) (Or.inl ⟨by rfl, ?_⟩) (by assumption) ?_
              rotate_left
              · (intro w hSw; (try dsimp only at hSw); go_simp; all_goals with_reducible rfl)
              (try simp only [Act.put, List.setIfInBounds_toArray, List.set_cons_zero, List.set_cons_succ])
              refine wpAnyH_take (i := 29) (v := ?_) (by rw [List.getElem?_toArray]; rfl) (by kernel_rfl) (by kernel_rfl) (by kernel_rfl) (by intro _ _ _ h; exact h) (Or.inl ⟨by rfl, ?_⟩) (by assumption) ?_
              rotate_left
              · (intro w hSw; (try dsimp only at hSw); go_simp; all_goals with_reducible rfl)
              (try simp only [Act.put, List.setIfInBounds_toArray, List.set_cons_zero, List.set_cons_succ])
              refine wpAnyH_ready (rs := [30]) (by kernel_rfl) (by simp) ?_
              refine AllReadyH.cons (by rw [List.getElem?_toArray]; rfl) (fun K hK => ?_) AllReadyH.nil
              go_simp
              refine (COk vx).mono ?_; rintro ee vx ⟨rfl, hbl⟩; (replace XB := XB.trans (hbl.mono XB.size)); (clear hbl)
              (try go_wp2_with fail)
              refine hK.out _ _ ?_ (fun hHeld => ?_)
              · first | exact SK.out _ XB | exact SK.out _ (Below.drew (Below.refl _ _))
              clear hK K
              (try simp only [Act.put, List.setIfInBounds_toArray, List.set_cons_zero, List.set_cons_succ])
              refine wpAnyH_take (i := 31) (v := ?_) (by rw [List.getElem?_toArray]; rfl) (by kernel_rfl) (by kernel_rfl) (by kernel_rfl) (by intro _ _ _ h; exact h) (Or.inl ⟨by rfl, ?_⟩) (by assumption) ?_
              rotate_left
              · (intro w hSw; (try dsimp only at hSw); go_simp; all_goals with_reducible rfl)
              (try simp only [Act.put, List.setIfInBounds_toArray, List.set_cons_zero, List.set_cons_succ])
              refine wpAnyH_take (i := 32) (v := ?_) (by rw [List.getElem?_toArray]; rfl) (by kernel_rfl) (by kernel_rfl) (by kernel_rfl) (by intro _ _ _ h; exact h) (Or.inl ⟨by rfl, ?_⟩) (by assumption) ?_
              rotate_left
              · (intro w hSw; (try dsimp only at hSw); go_simp; all_goals with_reducible rfl)
              (try simp only [Act.put, List.setIfInBounds_toArray, List.set_cons_zero, List.set_cons_succ])
              refine wpAnyH_done (by kernel_rfl) ?_ _
              go_wp2_with fail
              go_meet
              case rel => exact ⟨rfl, XB⟩
            · have hu1 : (up == 1) = true := HF2.out.symm.trans hkb
              refine wp_region_held_drew (S := (fun w' => w'.cell? ⟨jn, 0, none⟩ = some (.int .i64 a1) ∧ w'.cell? ⟨jn, 1, none⟩ = some (.int .i64 a2) ∧ w'.cell? ⟨jn, 2, none⟩ = some (.int .i64 a3) ∧ w'.cell? ⟨j7, 0, none⟩ = some (.int .i64 AA) ∧ w'.cell? ⟨j7, 1, none⟩ = some (.int .i64 EE) ∧ w'.cell? ⟨j7, 2, none⟩ = some (.int .i64 SS) ∧ w'.cell? ⟨b, off + q * 2, none⟩ = some (.int .i64 x0) ∧ w'.cell? ⟨b, off + q * 2 + 1, none⟩ = some (.int .i64 x1))) (by kernel_rfl) ?_ (fun hHeld => ?_)
              · first | exact SK.out _ XB | exact SK.out _ (Below.drew (Below.refl _ _))
              have XB : Below v2.heap.size v2 v2.drew := Below.drew (Below.refl _ _)
              generalize v2.drew = vx at *
              refine wpAnyH_take (i := 0) (v := ?_) (by rw [List.getElem?_toArray]; rfl) (by kernel_rfl) (by kernel_rfl) (by kernel_rfl) (by intro _ _ _ h; exact h) (Or.inl ⟨by rfl, ?_⟩) (by assumption) ?_
              rotate_left
              · (intro w hSw; (try dsimp only at hSw); go_simp; all_goals with_reducible rfl)
              (try simp only [Act.put, List.setIfInBounds_toArray, List.set_cons_zero, List.set_cons_succ])
              refine wpAnyH_take (i := 1) (v := ?_) (by rw [List.getElem?_toArray]; rfl) (by kernel_rfl) (by kernel_rfl) (by kernel_rfl) (by intro _ _ _ h; exact h) (Or.inl ⟨by rfl, ?_⟩) (by assumption) ?_
              rotate_left
              · (intro w hSw; (try dsimp only at hSw); go_simp; all_goals with_reducible rfl)
              (try simp only [Act.put, List.setIfInBounds_toArray, List.set_cons_zero, List.set_cons_succ])
              refine wpAnyH_take (i := 2) (v := ?_) (by rw [List.getElem?_toArray]; rfl) (by kernel_rfl) (by kernel_rfl) (by kernel_rfl) (by intro _ _ _ h; exact h) (Or.inl ⟨by rfl, ?_⟩) (by assumption) ?_
              rotate_left
              · (intro w hSw; (try dsimp only at hSw); go_simp; all_goals with_reducible rfl)
              (try simp only [Act.put, List.setIfInBounds_toArray, List.set_cons_zero, List.set_cons_succ])
              refine wpAnyH_take (i := 3) (v := ?_) (by rw [List.getElem?_toArray]; rfl) (by kernel_rfl) (by kernel_rfl) (by kernel_rfl) (by intro _ _ _ h; exact h) (Or.inl ⟨by rfl, ?_⟩) (by assumption) ?_
              rotate_left
              · (intro w hSw; (try dsimp only at hSw); go_simp; all_goals with_reducible rfl)
              (try simp only [Act.put, List.setIfInBounds_toArray, List.set_cons_zero, List.set_cons_succ])
              refine wpAnyH_take (i := 4) (v := ?_) (by rw [List.getElem?_toArray]; rfl) (by kernel_rfl) (by kernel_rfl) (by kernel_rfl) (by intro _ _ _ h; exact h) (Or.inl ⟨by rfl, ?_⟩) (by assumption) ?_
              rotate_left
              · (intro w hSw; (try dsimp only at hSw); go_simp; all_goals with_reducible rfl)
              (try simp only [Act.put, List.setIfInBounds_toArray, List.set_cons_zero, List.set_cons_succ])
              refine wpAnyH_take (i := 5) (v := ?_) (by rw [List.getElem?_toArray]; rfl) (by kernel_rfl) (by kernel_rfl) (by kernel_rfl) (by intro _ _ _ h; exact h) (Or.inl ⟨by rfl, ?_⟩) (by assumption) ?_
              rotate_left
              · (intro w hSw; (try dsimp only at hSw); go_simp; all_goals with_reducible rfl)
              (try simp only [Act.put, List.setIfInBounds_toArray, List.set_cons_zero, List.set_cons_succ])
              refine wpAnyH_take (i := 6) (v := ?_) (by rw [List.getElem?_toArray]; rfl) (by kernel_rfl) (by kernel_rfl) (by kernel_rfl) (by intro _ _ _ h; exact h) (Or.inl ⟨by rfl, ?_⟩) (by assumption) ?_
              rotate_left
              · (intro w hSw; (try dsimp only at hSw); go_simp; all_goals with_reducible rfl)
              (try simp only [Act.put, List.setIfInBounds_toArray, List.set_cons_zero, List.set_cons_succ])
              refine wpAnyH_ready (rs := [7]) (by kernel_rfl) (by simp) ?_
              refine AllReadyH.cons (by rw [List.getElem?_toArray]; rfl) (fun K hK => ?_) AllReadyH.nil
              go_simp
              refine (CMay vx).mono ?_; rintro ee vx ⟨rfl, hbl⟩; (replace XB := XB.trans (hbl.mono XB.size)); (clear hbl)
              (try go_wp2_with fail)
              refine hK.out _ _ ?_ (fun hHeld => ?_)
              · first | exact SK.out _ XB | exact SK.out _ (Below.drew (Below.refl _ _))
              clear hK K
              (try simp only [Act.put, List.setIfInBounds_toArray, List.set_cons_zero, List.set_cons_succ])
              refine wpAnyH_take (i := 8) (v := ?_) (by rw [List.getElem?_toArray]; rfl) (by kernel_rfl) (by kernel_rfl) (by kernel_rfl) (by intro _ _ _ h; exact h) (Or.inl ⟨by rfl, ?_⟩) (by assumption) ?_
              rotate_left
              · (intro w hSw; (try dsimp only at hSw); go_simp; all_goals with_reducible rfl)
              (try simp only [Act.put, List.setIfInBounds_toArray, List.set_cons_zero, List.set_cons_succ])
              refine wpAnyH_take (i := 9) (v := ?_) (by rw [List.getElem?_toArray]; rfl) (by kernel_rfl) (by kernel_rfl) (by kernel_rfl) (by intro _ _ _ h; exact h) (Or.inl ⟨by rfl, ?_⟩) (by assumption) ?_
              rotate_left
              · (intro w hSw; (try dsimp only at hSw); go_simp; all_goals with_reducible rfl)
              (try simp only [Act.put, List.setIfInBounds_toArray, List.set_cons_zero, List.set_cons_succ])
              refine wpAnyH_take (i := 10) (v := ?_) (by rw [List.getElem?_toArray]; rfl) (by kernel_rfl) (by kernel_rfl) (by kernel_rfl) (by intro _ _ _ h; exact h) (Or.inl ⟨by rfl, ?_⟩) (by assumption) ?_
              rotate_left
              · (intro w hSw; (try dsimp only at hSw); go_simp; all_goals with_reducible rfl)
              (try simp only [Act.put, List.setIfInBounds_toArray, List.set_cons_zero, List.set_cons_succ])
              refine wpAnyH_take (i := 11) (v := ?_) (by rw [List.getElem?_toArray]; rfl) (by kernel_rfl) (by kernel_rfl) (by kernel_rfl) (by intro _ _ _ h; exact h) (Or.inl ⟨by rfl, ?_⟩) (by assumption) ?_
              rotate_left
              · (intro w hSw; (try dsimp only at hSw); go_simp; all_goals with_reducible rfl)
              (try simp only [Act.put, List.setIfInBounds_toArray, List.set_cons_zero, List.set_cons_succ])
              refine wpAnyH_take (i := 12) (v := ?_) (by rw [List.getElem?_toArray]; rfl) (by kernel_rfl) (by kernel_rfl) (by kernel_rfl) (by intro _ _ _ h; exact h) (Or.inl ⟨by rfl, ?_⟩) (by assumption) ?_
              rotate_left
              · (intro w hSw; (try dsimp only at hSw); go_simp; all_goals with_reducible rfl)
              (try simp only [Act.put, List.setIfInBounds_toArray, List.set_cons_zero, List.set_cons_succ])
              refine wpAnyH_take (i := 13) (v := ?_) (by rw [List.getElem?_toArray]; rfl) (by kernel_rfl) (by kernel_rfl) (by kernel_rfl) (by intro _ _ _ h; exact h) (Or.inl ⟨by rfl, ?_⟩) (by assumption) ?_
              rotate_left
              · (intro w hSw; (try dsimp only at hSw); go_simp; all_goals with_reducible rfl)
              (try simp only [Act.put, List.setIfInBounds_toArray, List.set_cons_zero, List.set_cons_succ])
              refine wpAnyH_take (i := 14) (v := ?_) (by rw [List.getElem?_toArray]; rfl) (by kernel_rfl) (by kernel_rfl) (by kernel_rfl) (by intro _ _ _ h; exact h) (Or.inl ⟨by rfl, ?_⟩) (by assumption) ?_
              rotate_left
              · (intro w hSw; (try dsimp only at hSw); go_simp; all_goals with_reducible rfl)
              (try simp only [Act.put, List.setIfInBounds_toArray, List.set_cons_zero, List.set_cons_succ])
              refine wpAnyH_take (i := 15) (v := ?_) (by rw [List.getElem?_toArray]; rfl) (by kernel_rfl) (by kernel_rfl) (by kernel_rfl) (by intro _ _ _ h; exact h) (Or.inl ⟨by rfl, ?_⟩) (by assumption) ?_
              rotate_left
              · (intro w hSw; (try dsimp only at hSw); go_simp; all_goals with_reducible rfl)
              (try simp only [Act.put, List.setIfInBounds_toArray, List.set_cons_zero, List.set_cons_succ])
              (try simp only [hkb])
              refine wpAnyH_take (i := 16) (v := ?_) (by rw [List.getElem?_toArray]; rfl) (by kernel_rfl) (by kernel_rfl) (by kernel_rfl) (by intro _ _ _ h; exact h) (Or.inl ⟨by rfl, ?_⟩) (by assumption) ?_
              rotate_left
              · (intro w hSw; (try dsimp only at hSw); go_simp; all_goals with_reducible rfl)
              (try simp only [Act.put, List.setIfInBounds_toArray, List.set_cons_zero, List.set_cons_succ])
              refine wpAnyH_take (i := 17) (v := ?_) (by rw [List.getElem?_toArray]; rfl) (by kernel_rfl) (by kernel_rfl) (by kernel_rfl) (by intro _ _ _ h; exact h) (Or.inl ⟨by rfl, ?_⟩) (by assumption) ?_
              rotate_left
              · (intro w hSw; (try dsimp only at hSw); go_simp; all_goals with_reducible rfl)
              (try simp only [Act.put, List.setIfInBounds_toArray, List.set_cons_zero, List.set_cons_succ])
              (try simp only [hu1])
              refine wpAnyH_take (i := 18) (v := ?_) (by rw [List.getElem?_toArray]; rfl) (by kernel_rfl) (by kernel_rfl) (by kernel_rfl) (by intro _ _ _ h; exact h) (Or.inl ⟨by rfl, ?_⟩) (by assumption) ?_
              rotate_left
              · (intro w hSw; (try dsimp only at hSw); go_simp; all_goals with_reducible rfl)
              (try simp only [Act.put, List.setIfInBounds_toArray, List.set_cons_zero, List.set_cons_succ])
              refine wpAnyH_take (i := 19) (v := ?_) (by rw [List.getElem?_toArray]; rfl) (by kernel_rfl) (by kernel_rfl) (by kernel_rfl) (by intro _ _ _ h; exact h) (Or.inl ⟨by rfl, ?_⟩) (by assumption) ?_
              rotate_left
              · (intro w hSw; (try dsimp only at hSw); go_simp; all_goals with_reducible rfl)
              (try simp only [Act.put, List.setIfInBounds_toArray, List.set_cons_zero, List.set_cons_succ])
              refine wpAnyH_take (i := 20) (v := ?_) (by rw [List.getElem?_toArray]; rfl) (by kernel_rfl) (by kernel_rfl) (by kernel_rfl) (by intro _ _ _ h; exact h) (Or.inl ⟨by rfl, ?_⟩) (by assumption) ?_
              rotate_left
              · (intro w hSw; (try dsimp only at hSw); go_simp; all_goals with_reducible rfl)
              (try simp only [Act.put, List.setIfInBounds_toArray, List.set_cons_zero, List.set_cons_succ])
              refine wpAnyH_take (i := 21) (v := ?_) (by rw [List.getElem?_toArray]; rfl) (by kernel_rfl) (by kernel_rfl) (by kernel_rfl) (by intro _ _ _ h; exact h) (Or.inl ⟨by rfl, ?_⟩) (by assumption) ?_
              rotate_left
              · (intro w hSw; (try dsimp only at hSw); go_simp; all_goals with_reducible rfl)
              (try simp only [Act.put, List.setIfInBounds_toArray, List.set_cons_zero, List.set_cons_succ])
              refine wpAnyH_take (i := 22) (v := ?_) (by rw [List.getElem?_toArray]; rfl) (by kernel_rfl) (by kernel_rfl) (by kernel_rfl) (by intro _ _ _ h; exact h) (Or.inl ⟨by rfl, ?_⟩) (by assumption) ?_
              rotate_left
              · (intro w hSw; (try dsimp only at hSw); go_simp; all_goals with_reducible rfl)
              (try simp only [Act.put, List.setIfInBounds_toArray, List.set_cons_zero, List.set_cons_succ])
              (try simp only [hu2])
              refine wpAnyH_take (i := 23) (v := ?_) (by rw [List.getElem?_toArray]; rfl) (by kernel_rfl) (by kernel_rfl) (by kernel_rfl) (by intro _ _ _ h; exact h) (Or.inl ⟨by rfl, ?_⟩) (by assumption) ?_
              rotate_left
              · (intro w hSw; (try dsimp only at hSw); go_simp; all_goals with_reducible rfl)
              (try simp only [Act.put, List.setIfInBounds_toArray, List.set_cons_zero, List.set_cons_succ])
              refine wpAnyH_take (i := 24) (v := ?_) (by rw [List.getElem?_toArray]; rfl) (by kernel_rfl) (by kernel_rfl) (by kernel_rfl) (by intro _ _ _ h; exact h) (Or.inl ⟨by rfl, ?_⟩) (by assumption) ?_
              rotate_left
              · (intro w hSw; (try dsimp only at hSw); go_simp; all_goals with_reducible rfl)
              (try simp only [Act.put, List.setIfInBounds_toArray, List.set_cons_zero, List.set_cons_succ])
              refine wpAnyH_take (i := 25) (v := ?_) (by rw [List.getElem?_toArray]; rfl) (by kernel_rfl) (by kernel_rfl) (by kernel_rfl) (by intro _ _ _ h; exact h) (Or.inl ⟨by rfl, ?_⟩) (by assumption) ?_
              rotate_left
              · (intro w hSw; (try dsimp only at hSw); go_simp; all_goals with_reducible rfl)
              (try simp only [Act.put, List.setIfInBounds_toArray, List.set_cons_zero, List.set_cons_succ])
              refine wpAnyH_take (i := 26) (v := ?_) (by rw [List.getElem?_toArray]; rfl) (by kernel_rfl) (by kernel_rfl) (by kernel_rfl) (by intro _ _ _ h; exact h) (Or.inl ⟨by rfl, ?_⟩) (by assumption) ?_
              rotate_left
              · (intro w hSw; (try dsimp only at hSw); go_simp; all_goals with_reducible rfl)
              (try simp only [Act.put, List.setIfInBounds_toArray, List.set_cons_zero, List.set_cons_succ])
              (try simp only [hu3])
              refine wpAnyH_take (i := 27) (v := ?_) (by rw [List.getElem?_toArray]; rfl) (by kernel_rfl) (by kernel_rfl) (by kernel_rfl) (by intro _ _ _ h; exact h) (Or.inl ⟨by rfl, ?_⟩) (by assumption) ?_
              rotate_left
              · (intro w hSw; (try dsimp only at hSw); go_simp; all_goals with_reducible rfl)
              (try simp only [Act.put, List.setIfInBounds_toArray, List.set_cons_zero, List.set_cons_succ])
              refine wpAnyH_take (i := 28) (v := ?_) (by rw [List.getElem?_toArray]; rfl) (by kernel_rfl) (by kernel_rfl) (by kernel_rfl) (by intro _ _ _ h; exact h) (Or.inl ⟨by rfl, ?_⟩) (by assumption) ?_
              rotate_left
              · (intro w hSw; (try dsimp only at hSw); go_simp; all_goals with_reducible rfl)
              (try simp only [Act.put, List.setIfInBounds_toArray, List.set_cons_zero, List.set_cons_succ])
              refine wpAnyH_take (i := 29) (v := ?_) (by rw [List.getElem?_toArray]; rfl) (by kernel_rfl) (by kernel_rfl) (by kernel_rfl) (by intro _ _ _ h; exact h) (Or.inl ⟨by rfl, ?_⟩) (by assumption) ?_
              rotate_left
              · (intro w hSw; (try dsimp only at hSw); go_simp; all_goals with_reducible rfl)
              (try simp only [Act.put, List.setIfInBounds_toArray, List.set_cons_zero, List.set_cons_succ])
              refine wpAnyH_ready (rs := [30]) (by kernel_rfl) (by simp) ?_
              refine AllReadyH.cons (by rw [List.getElem?_toArray]; rfl) (fun K hK => ?_) AllReadyH.nil
              go_simp
              refine (COk vx).mono ?_; rintro ee vx ⟨rfl, hbl⟩; (replace XB := XB.trans (hbl.mono XB.size)); (clear hbl)
              (try go_wp2_with fail)
              refine hK.out _ _ ?_ (fun hHeld => ?_)
              · first | exact SK.out _ XB | exact SK.out _ (Below.drew (Below.refl _ _))
              clear hK K
              (try simp only [Act.put, List.setIfInBounds_toArray, List.set_cons_zero, List.set_cons_succ])
              refine wpAnyH_take (i := 31) (v := ?_) (by rw [List.getElem?_toArray]; rfl) (by kernel_rfl) (by kernel_rfl) (by kernel_rfl) (by intro _ _ _ h; exact h) (Or.inl ⟨by rfl, ?_⟩) (by assumption) ?_
              rotate_left
              · (intro w hSw; (try dsimp only at hSw); go_simp; all_goals with_reducible rfl)
              (try simp only [Act.put, List.setIfInBounds_toArray, List.set_cons_zero, List.set_cons_succ])
              refine wpAnyH_take (i := 32) (v := ?_) (by rw [List.getElem?_toArray]; rfl) (by kernel_rfl) (by kernel_rfl) (by kernel_rfl) (by intro _ _ _ h; exact h) (Or.inl ⟨by rfl, ?_⟩) (by assumption) ?_
              rotate_left
              · (intro w hSw; (try dsimp only at hSw); go_simp; all_goals with_reducible rfl)
              (try simp only [Act.put, List.setIfInBounds_toArray, List.set_cons_zero, List.set_cons_succ])
              refine wpAnyH_done (by kernel_rfl) ?_ _
              go_wp2_with fail
              go_meet
              case rel => exact ⟨rfl, XB⟩
          case rest =>
            obtain ⟨rfl, hb⟩ := hcut
            clear SK CMay COk hu2 hu3 HF2 c0 c1
            generalize wc = v3 at *
            replace Y := Y.below hb
            replace B := B.trans (hb.mono B.size)
            replace I := I.below hb
            replace J := J.below hb
            replace HS : Hid (SrcC _ (some ⟨b, off, none⟩) (n * 2) (MFIval M)) := HS.out.below hb
            clear hb hbb
            go_upto_region 18 with fail
            have SK : Hid (∀ w', Below v3.heap.size v3 w' → (fun w' => w'.cell? ⟨j7, 0, none⟩ = some (.int .i64 AA) ∧ w'.cell? ⟨j7, 1, none⟩ = some (.int .i64 EE) ∧ w'.cell? ⟨j7, 2, none⟩ = some (.int .i64 SS)) w') := fun w' hw => ⟨(Y.below hw).2.1, (Y.below hw).2.2.1, (Y.below hw).2.2.2.1⟩
            go_cut [110] (fun s110 wx => s110 = .bool false ∧ Below v3.heap.size v3 wx)
            case first => as_aux_lemma =>
              generalize nmS AA = nm at *
              generalize hsd : seB AA EE SS = sd at *
              clear hsd
              cases sd
              · rw [Bool.false_or] at CKn
                generalize hh0 : (nm.toList == [104, 111, 108, 100]) = hh at *
                have HH1 : Hid ((nm.toList == [104, 111, 108, 100]) = hh) := hh0
                clear hh0
                refine wp_region_held_drew (S := (fun w' => w'.cell? ⟨j7, 0, none⟩ = some (.int .i64 AA) ∧ w'.cell? ⟨j7, 1, none⟩ = some (.int .i64 EE) ∧ w'.cell? ⟨j7, 2, none⟩ = some (.int .i64 SS))) (by kernel_rfl) ?_ (fun hHeld => ?_)
                · first | exact SK.out _ XB | exact SK.out _ (Below.drew (Below.refl _ _))
                have XB : Below v3.heap.size v3 v3.drew := Below.drew (Below.refl _ _)
                generalize v3.drew = vx at *
                refine wpAnyH_take (i := 0) (v := ?_) (by rw [List.getElem?_toArray]; rfl) (by kernel_rfl) (by kernel_rfl) (by kernel_rfl) (by intro _ _ _ h; exact h) (Or.inl ⟨by rfl, ?_⟩) (by assumption) ?_
                rotate_left
                · (intro w hSw; (try dsimp only at hSw); go_simp; all_goals with_reducible rfl)
                (try simp only [Act.put, List.setIfInBounds_toArray, List.set_cons_zero, List.set_cons_succ])
                refine wpAnyH_take (i := 2) (v := ?_) (by rw [List.getElem?_toArray]; rfl) (by kernel_rfl) (by kernel_rfl) (by kernel_rfl) (by intro _ _ _ h; exact h) (Or.inl ⟨by rfl, ?_⟩) (by assumption) ?_
                rotate_left
                · (intro w hSw; (try dsimp only at hSw); go_simp; all_goals with_reducible rfl)
                (try simp only [Act.put, List.setIfInBounds_toArray, List.set_cons_zero, List.set_cons_succ])
                refine wpAnyH_ready (rs := [1]) (by kernel_rfl) (by simp) ?_
                refine AllReadyH.cons (by rw [List.getElem?_toArray]; rfl) (fun K hK => ?_) AllReadyH.nil
                go_simp
                refine (CKn vx).mono ?_; rintro ee vx ⟨rfl, hbl⟩; (replace XB := XB.trans (hbl.mono XB.size)); (clear hbl)
                (try go_wp2_with fail)
                refine hK.out _ _ ?_ (fun hHeld => ?_)
                · first | exact SK.out _ XB | exact SK.out _ (Below.drew (Below.refl _ _))
                clear hK K
                (try simp only [Act.put, List.setIfInBounds_toArray, List.set_cons_zero, List.set_cons_succ])
                refine wpAnyH_ready (rs := [3]) (by kernel_rfl) (by simp) ?_
                refine AllReadyH.cons (by rw [List.getElem?_toArray]; rfl) (fun K hK => ?_) AllReadyH.nil
                go_simp
                refine (CSe vx).mono ?_; rintro ee vx ⟨rfl, hbl⟩; (replace XB := XB.trans (hbl.mono XB.size)); (clear hbl)
                (try go_wp2_with fail)
                refine hK.out _ _ ?_ (fun hHeld => ?_)
                · first | exact SK.out _ XB | exact SK.out _ (Below.drew (Below.refl _ _))
                clear hK K
                (try simp only [Act.put, List.setIfInBounds_toArray, List.set_cons_zero, List.set_cons_succ])
                refine wpAnyH_take (i := 4) (v := ?_) (by rw [List.getElem?_toArray]; rfl) (by kernel_rfl) (by kernel_rfl) (by kernel_rfl) (by intro _ _ _ h; exact h) (Or.inl ⟨by rfl, ?_⟩) (by assumption) ?_
                rotate_left
                · (intro w hSw; (try dsimp only at hSw); go_simp; all_goals with_reducible rfl)
                (try simp only [Act.put, List.setIfInBounds_toArray, List.set_cons_zero, List.set_cons_succ])
                refine wpAnyH_take (i := 5) (v := ?_) (by rw [List.getElem?_toArray]; rfl) (by kernel_rfl) (by kernel_rfl) (by kernel_rfl) (by intro _ _ _ h; exact h) (Or.inl ⟨by rfl, ?_⟩) (by assumption) ?_
                rotate_left
                · (intro w hSw; (try dsimp only at hSw); go_simp; all_goals with_reducible rfl)
                (try simp only [Act.put, List.setIfInBounds_toArray, List.set_cons_zero, List.set_cons_succ])
                refine wpAnyH_take (i := 6) (v := ?_) (by rw [List.getElem?_toArray]; rfl) (by kernel_rfl) (by kernel_rfl) (by kernel_rfl) (by intro _ _ _ h; exact h) (Or.inl ⟨by rfl, ?_⟩) (by assumption) ?_
                rotate_left
                · (intro w hSw; (try dsimp only at hSw); go_simp; all_goals with_reducible rfl)
                (try simp only [Act.put, List.setIfInBounds_toArray, List.set_cons_zero, List.set_cons_succ])
                refine wpAnyH_ready (rs := [7]) (by kernel_rfl) (by simp) ?_
                refine AllReadyH.cons (by rw [List.getElem?_toArray]; rfl) (fun K hK => ?_) AllReadyH.nil
                go_simp
                refine (CNm vx).mono ?_; rintro ee vx ⟨rfl, hbl⟩; (replace XB := XB.trans (hbl.mono XB.size)); (clear hbl)
                (try go_wp2_with fail)
                refine hK.out _ _ ?_ (fun hHeld => ?_)
                · first | exact SK.out _ XB | exact SK.out _ (Below.drew (Below.refl _ _))
                clear hK K
                (try simp only [Act.put, List.setIfInBounds_toArray, List.set_cons_zero, List.set_cons_succ])
                refine wpAnyH_take (i := 8) (v := ?_) (by rw [List.getElem?_toArray]; rfl) (by kernel_rfl) (by kernel_rfl) (by kernel_rfl) (by intro _ _ _ h; exact h) (Or.inl ⟨by rfl, ?_⟩) (by assumption) ?_
                rotate_left
                · (intro w hSw; (try dsimp only at hSw); go_simp; all_goals with_reducible rfl)
                (try simp only [Act.put, List.setIfInBounds_toArray, List.set_cons_zero, List.set_cons_succ])
                refine wpAnyH_take (i := 9) (v := ?_) (by rw [List.getElem?_toArray]; rfl) (by kernel_rfl) (by kernel_rfl) (by kernel_rfl) (by intro _ _ _ h; exact h) (Or.inl ⟨by rfl, ?_⟩) (by assumption) ?_
                rotate_left
                · (intro w hSw; (try dsimp only at hSw); go_simp; all_goals with_reducible rfl)
                (try simp only [Act.put, List.setIfInBounds_toArray, List.set_cons_zero, List.set_cons_succ])
                refine wpAnyH_take (i := 10) (v := ?_) (by rw [List.getElem?_toArray]; rfl) (by kernel_rfl) (by kernel_rfl) (by kernel_rfl) (by intro _ _ _ h; exact h) (Or.inl ⟨by rfl, ?_⟩) (by assumption) ?_
                rotate_left
                · (intro w hSw; (try dsimp only at hSw); go_simp; all_goals with_reducible rfl)
                (try simp only [Act.put, List.setIfInBounds_toArray, List.set_cons_zero, List.set_cons_succ])
                refine wpAnyH_done (by kernel_rfl) ?_ _
                go_wp2_with fail
                go_meet
                case rel => exact ⟨by first | rfl | (rw [HH1.out]; simp), XB⟩
              · rw [Bool.true_or] at CKn
                refine wp_region_held_drew (S := (fun w' => w'.cell? ⟨j7, 0, none⟩ = some (.int .i64 AA) ∧ w'.cell? ⟨j7, 1, none⟩ = some (.int .i64 EE) ∧ w'.cell? ⟨j7, 2, none⟩ = some (.int .i64 SS))) (by kernel_rfl) ?_ (fun hHeld => ?_)
                · first | exact SK.out _ XB | exact SK.out _ (Below.drew (Below.refl _ _))
                have XB : Below v3.heap.size v3 v3.drew := Below.drew (Below.refl _ _)
                generalize v3.drew = vx at *
                refine wpAnyH_take (i := 0) (v := ?_) (by rw [List.getElem?_toArray]; rfl) (by kernel_rfl) (by kernel_rfl) (by kernel_rfl) (by intro _ _ _ h; exact h) (Or.inl ⟨by rfl, ?_⟩) (by assumption) ?_
                rotate_left
                · (intro w hSw; (try dsimp only at hSw); go_simp; all_goals with_reducible rfl)
                (try simp only [Act.put, List.setIfInBounds_toArray, List.set_cons_zero, List.set_cons_succ])
                refine wpAnyH_take (i := 2) (v := ?_) (by rw [List.getElem?_toArray]; rfl) (by kernel_rfl) (by kernel_rfl) (by kernel_rfl) (by intro _ _ _ h; exact h) (Or.inl ⟨by rfl, ?_⟩) (by assumption) ?_
                rotate_left
                · (intro w hSw; (try dsimp only at hSw); go_simp; all_goals with_reducible rfl)
                (try simp only [Act.put, List.setIfInBounds_toArray, List.set_cons_zero, List.set_cons_succ])
                refine wpAnyH_ready (rs := [1]) (by kernel_rfl) (by simp) ?_
                refine AllReadyH.cons (by rw [List.getElem?_toArray]; rfl) (fun K hK => ?_) AllReadyH.nil
                go_simp
                refine (CKn vx).mono ?_; rintro ee vx ⟨rfl, hbl⟩; (replace XB := XB.trans (hbl.mono XB.size)); (clear hbl)
                (try go_wp2_with fail)
                refine hK.out _ _ ?_ (fun hHeld => ?_)
                · first | exact SK.out _ XB | exact SK.out _ (Below.drew (Below.refl _ _))
                clear hK K
                (try simp only [Act.put, List.setIfInBounds_toArray, List.set_cons_zero, List.set_cons_succ])
                refine wpAnyH_ready (rs := [3]) (by kernel_rfl) (by simp) ?_
                refine AllReadyH.cons (by rw [List.getElem?_toArray]; rfl) (fun K hK => ?_) AllReadyH.nil
                go_simp
                refine (CSe vx).mono ?_; rintro ee vx ⟨rfl, hbl⟩; (replace XB := XB.trans (hbl.mono XB.size)); (clear hbl)
                (try go_wp2_with fail)
                refine hK.out _ _ ?_ (fun hHeld => ?_)
                · first | exact SK.out _ XB | exact SK.out _ (Below.drew (Below.refl _ _))
                clear hK K
                (try simp only [Act.put, List.setIfInBounds_toArray, List.set_cons_zero, List.set_cons_succ])
                refine wpAnyH_take (i := 4) (v := ?_) (by rw [List.getElem?_toArray]; rfl) (by kernel_rfl) (by kernel_rfl) (by kernel_rfl) (by intro _ _ _ h; exact h) (Or.inl ⟨by rfl, ?_⟩) (by assumption) ?_
                rotate_left
                · (intro w hSw; (try dsimp only at hSw); go_simp; all_goals with_reducible rfl)
                (try simp only [Act.put, List.setIfInBounds_toArray, List.set_cons_zero, List.set_cons_succ])
                refine wpAnyH_take (i := 5) (v := undef) (by rw [List.getElem?_toArray]; rfl) (by kernel_rfl) (by kernel_rfl) (by kernel_rfl) (by intro _ _ _ h; exact h) (Or.inr ⟨by rfl, rfl⟩) (by assumption) ?_
                (try simp only [Act.put, List.setIfInBounds_toArray, List.set_cons_zero, List.set_cons_succ])
                refine wpAnyH_take (i := 6) (v := undef) (by rw [List.getElem?_toArray]; rfl) (by kernel_rfl) (by kernel_rfl) (by kernel_rfl) (by intro _ _ _ h; exact h) (Or.inr ⟨by rfl, rfl⟩) (by assumption) ?_
                (try simp only [Act.put, List.setIfInBounds_toArray, List.set_cons_zero, List.set_cons_succ])
                refine wpAnyH_take (i := 7) (v := undef) (by rw [List.getElem?_toArray]; rfl) (by kernel_rfl) (by kernel_rfl) (by kernel_rfl) (by intro _ _ _ h; exact h) (Or.inr ⟨by rfl, rfl⟩) (by assumption) ?_
                (try simp only [Act.put, List.setIfInBounds_toArray, List.set_cons_zero, List.set_cons_succ])
                refine wpAnyH_take (i := 8) (v := undef) (by rw [List.getElem?_toArray]; rfl) (by kernel_rfl) (by kernel_rfl) (by kernel_rfl) (by intro _ _ _ h; exact h) (Or.inr ⟨by rfl, rfl⟩) (by assumption) ?_
                (try simp only [Act.put, List.setIfInBounds_toArray, List.set_cons_zero, List.set_cons_succ])
                refine wpAnyH_take (i := 9) (v := ?_) (by rw [List.getElem?_toArray]; rfl) (by kernel_rfl) (by kernel_rfl) (by kernel_rfl) (by intro _ _ _ h; exact h) (Or.inl ⟨by rfl, ?_⟩) (by assumption) ?_
                rotate_left
                · (intro w hSw; (try dsimp only at hSw); go_simp; all_goals with_reducible rfl)
                (try simp only [Act.put, List.setIfInBounds_toArray, List.set_cons_zero, List.set_cons_succ])
                refine wpAnyH_take (i := 10) (v := ?_) (by rw [List.getElem?_toArray]; rfl) (by kernel_rfl) (by kernel_rfl) (by kernel_rfl) (by intro _ _ _ h; exact h) (Or.inl ⟨by rfl, ?_⟩) (by assumption) ?_
                rotate_left
                · (intro w hSw; (try dsimp only at hSw); go_simp; all_goals with_reducible rfl)
                (try simp only [Act.put, List.setIfInBounds_toArray, List.set_cons_zero, List.set_cons_succ])
                refine wpAnyH_done (by kernel_rfl) ?_ _
                go_wp2_with fail
                go_meet
                case rel => exact ⟨rfl, XB⟩
            case rest =>
              obtain ⟨rfl, hb⟩ := hcut
              clear SK CKn CSe CNm
              generalize wc = v4 at *
              replace Y := Y.below hb
              replace B := B.trans (hb.mono B.size)
              replace I := I.below hb
              replace J := J.below hb
              replace HS : Hid (SrcC _ (some ⟨b, off, none⟩) (n * 2) (MFIval M)) := HS.out.below hb
              clear hb
              have NN := ((J.set0 (.int .i64 AA)).set1 (.int .i64 EE)).set2 (.int .i64 SS)
              have bz : But jn v4 _ := (((But.refl jn v4).setCell 0 (.int .i64 AA)).setCell 1 (.int .i64 EE)).setCell 2 (.int .i64 SS)
              have IZ := I.but bz (by omega)
              have BZ := B.trans (bz.below (by omega) B.size)
              have SZ := HS.out.keptK bz.grK (fun b' off' e' => by have := HLB.out b' off' e' (by have := HQ.out.1; omega); intro h; (have h' := Option.some.inj h); omega)
              have HREL : Hid (Tx3 (((v4.setCell ⟨jn, 0, none⟩ (.int .i64 AA)).setCell ⟨jn, 1, none⟩ (.int .i64 EE)).setCell ⟨jn, 2, none⟩ (.int .i64 SS)) jl (.int .i64 m) (.int .i64 e) (.int .i64 s) ∧ Tx3 (((v4.setCell ⟨jn, 0, none⟩ (.int .i64 AA)).setCell ⟨jn, 1, none⟩ (.int .i64 EE)).setCell ⟨jn, 2, none⟩ (.int .i64 SS)) jn (.int .i64 AA) (.int .i64 EE) (.int .i64 SS) ∧ SrcC (((v4.setCell ⟨jn, 0, none⟩ (.int .i64 AA)).setCell ⟨jn, 1, none⟩ (.int .i64 EE)).setCell ⟨jn, 2, none⟩ (.int .i64 SS)) (some ⟨b, off, none⟩) (n * 2) (MFIval M) ∧ Below w.heap.size w (((v4.setCell ⟨jn, 0, none⟩ (.int .i64 AA)).setCell ⟨jn, 1, none⟩ (.int .i64 EE)).setCell ⟨jn, 2, none⟩ (.int .i64 SS))) := ⟨IZ, NN, SZ, BZ⟩
              obtain ⟨y0, y1, y2, y3, y4, y5, y6⟩ := Y
              obtain ⟨i0, i1, i2, i3, i4, i5, i6⟩ := J
              clear NN bz IZ BZ SZ I B HS
              go_wp2_with fail
              clear y0 y1 y2 y3 y4 y5 y6 i0 i1 i2 i3 i4 i5 i6
              go_roundw
              case rel => exact ⟨q + 1, AA, EE, SS, HQ.out.1, HQ.out.2, by go_num, HL.out, HREL.out.1, HREL.out.2.1, HREL.out.2.2.1, HREL.out.2.2.2⟩
              case measure => have hlt' := HQ.out.1; simp [intOf]; omega
    · have hcase : (n ≤ 200 ∧ q = n) ∨ (200 < n ∧ q = 200) := by omega
      clear HSTEP HT0 HLB hlt
      obtain ⟨i0, i1, i2, i3, i4, i5, i6⟩ := id I
      rcases hcase with ⟨h1, h2⟩ | ⟨h1, h2⟩
      · subst h2
        have hli : ¬ (q : Int) < (q : Int) := by omega
        have hd2 : ¬ (200 : Int) < (q : Int) := by omega
        have eA : lrA M q m e s = (a1, a2, a3) := by unfold lrA; rw [decide_eq_true h1]; exact hT
        have eL : (lrL M q m e s).length = q := by unfold lrL; rw [decide_eq_true h1]; exact HLEN.out q
        rw [eA] at CRun
        clear eA HLEN hT h1 hq hq2
        go_wp2_with fail
        refine (CRun _ HS.out).mono ?_
        rintro x w5 ⟨vc, rfl, OC, hb⟩
        clear i0 i1 i2 i3 i4 i5 i6
        replace B := B.trans (hb.mono B.size)
        replace I := I.below hb
        replace J := J.below hb
        obtain ⟨ca, cc, rfl⟩ := own_form17 OC
        rw [eL] at OC ⊢
        clear OC hb CRun HS eL
        have hb := Below.nw w5 (.cells #[.int .i64 a1, .int .i64 a2, .int .i64 a3] 25)
        have Z := Tx3.new w5 (.int .i64 a1) (.int .i64 a2) (.int .i64 a3) 25
        go_upto_region 22 with fail
        replace B := B.trans (hb.mono B.size)
        replace I := I.below hb
        replace J := J.below hb
        clear hb
        generalize w5.alloc (.cells #[.int .i64 a1, .int .i64 a2, .int .i64 a3] 25) = w6 at *
        generalize w5.heap.size = jq at *
        obtain ⟨z0, z1, z2, z3, z4, z5, z6⟩ := Z
        obtain ⟨i0, i1, i2, i3, i4, i5, i6⟩ := J
        go_wp2_with fail
        go_ret
        exact ⟨rfl, B⟩
      · subst h2
        have hli : ((200 : Nat) : Int) < (n : Int) := by omega
        have hd2 : (200 : Int) < (n : Int) := by omega
        have eA : lrA M n m e s = (m, e, s) := by unfold lrA; rw [decide_eq_false (by omega)]
        have eL : (lrL M n m e s).length = 0 := by unfold lrL; rw [decide_eq_false (by omega)]; rfl
        rw [eA] at CRun
        clear eA HLEN hT h1 hq hq2
        go_wp2_with fail
        refine (CRun _ HS.out).mono ?_
        rintro x w5 ⟨vc, rfl, OC, hb⟩
        clear i0 i1 i2 i3 i4 i5 i6
        replace B := B.trans (hb.mono B.size)
        replace I := I.below hb
        replace J := J.below hb
        obtain ⟨ca, cc, rfl⟩ := own_form17 OC
        rw [eL] at OC ⊢
        clear OC hb CRun HS eL
        have hb := Below.nw w5 (.cells #[.int .i64 m, .int .i64 e, .int .i64 s] 25)
        have Z := Tx3.new w5 (.int .i64 m) (.int .i64 e) (.int .i64 s) 25
        go_upto_region 22 with fail
        replace B := B.trans (hb.mono B.size)
        replace I := I.below hb
        replace J := J.below hb
        clear hb
        generalize w5.alloc (.cells #[.int .i64 m, .int .i64 e, .int .i64 s] 25) = w6 at *
        generalize w5.heap.size = jq at *
        obtain ⟨z0, z1, z2, z3, z4, z5, z6⟩ := Z
        obtain ⟨i0, i1, i2, i3, i4, i5, i6⟩ := I
        go_wp2_with fail
        go_ret
        exact ⟨rfl, B⟩
end Go.Proofs.Yteifibajafdnlaa
