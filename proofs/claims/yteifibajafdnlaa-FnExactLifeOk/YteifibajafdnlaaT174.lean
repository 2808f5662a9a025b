/- LifeRun in the specification. -/
import Derived.Test.YteifibajafdnlaaT171
import Derived.Test.YteifibajafdnlaaT173
import Derived.Deep.RegionHeld3
import Derived.Deep.DeepCutAuto
import Derived.Deep.DeepAppendRoom
import Derived.WalkKit
import Derived.WalkSpells
import Derived.WalkLawsBesides
import Derived.Deep.RegionHeld
namespace Go.Proofs.Yteifibajafdnlaa
open Go.RowKit
set_option linter.unusedVariables false
/- A life moved by events: where it comes to, and the codes. -/
def lrT (M : Nat → VT) (m e s : Int) : Nat → Int × Int × Int
  | 0 => (m, e, s)
  | q + 1 => match decide (stC (lrT M m e s q).1 (lrT M m e s q).2.1 (lrT M m e s q).2.2 (M q).1 (M q).2 = 0) with
    | true => (stM (lrT M m e s q).1 (lrT M m e s q).2.1 (lrT M m e s q).2.2 (M q).1 (M q).2, stE (lrT M m e s q).1 (lrT M m e s q).2.1 (lrT M m e s q).2.2 (M q).1 (M q).2, stS (lrT M m e s q).1 (lrT M m e s q).2.1 (lrT M m e s q).2.2 (M q).1 (M q).2)
    | false => lrT M m e s q
def lrC (M : Nat → VT) (m e s : Int) : Nat → List Int
  | 0 => []
  | q + 1 => lrC M m e s q ++ [stC (lrT M m e s q).1 (lrT M m e s q).2.1 (lrT M m e s q).2.2 (M q).1 (M q).2]
theorem lrC_len (M : Nat → VT) (m e s : Int) : ∀ q, (lrC M m e s q).length = q
  | 0 => rfl
  | q + 1 => by rw [lrC, List.length_append, lrC_len M m e s q]; rfl
def lrA (M : Nat → VT) (n : Nat) (m e s : Int) : Int × Int × Int := match decide (n ≤ 200) with | true => lrT M m e s n | false => (m, e, s)
def lrL (M : Nat → VT) (n : Nat) (m e s : Int) : List Int := match decide (n ≤ 200) with | true => lrC M m e s n | false => []
theorem lr_step (M : Nat → VT) (m e s : Int) (q : Nat) (a1 a2 a3 x0 x1 : Int) (h : lrT M m e s q = (a1, a2, a3)) (hM : M q = (x0, x1)) : lrC M m e s (q + 1) = lrC M m e s q ++ [stC a1 a2 a3 x0 x1] ∧ (stC a1 a2 a3 x0 x1 = 0 → lrT M m e s (q + 1) = (stM a1 a2 a3 x0 x1, stE a1 a2 a3 x0 x1, stS a1 a2 a3 x0 x1)) ∧ (stC a1 a2 a3 x0 x1 ≠ 0 → lrT M m e s (q + 1) = (a1, a2, a3)) := by
  refine ⟨by rw [lrC, h, hM], fun hz => ?_, fun hz => ?_⟩
  · rw [lrT, h, hM]; simp only; rw [decide_eq_true hz]
  · rw [lrT, h, hM]; simp only; rw [decide_eq_false hz]
theorem lr_tup (x : Int × Int × Int) : ∃ a b c, x = (a, b, c) := ⟨x.1, x.2.1, x.2.2, rfl⟩
theorem own_base17 {w : World} {base base' s n : Nat} {T : TypeId} {v : Value} {xs : List Value} (h : w.ownsRow base' T s v n xs) (hb : base ≤ base') : w.ownsRow base T s v n xs := by
  refine ⟨h.1, ?_⟩
  rcases h.2 with q | ⟨g, cap, cur, h1, h2, h3⟩
  · exact .inl q
  · exact .inr ⟨g, cap, cur, h1, Nat.le_trans hb h2, h3⟩
/- An append of one number to a row of at most two hundred. -/
theorem add_code {w : World} {ops : Array Oper} {rest : List Oper} {o : Oper} {a : Act} {Q : Exit → Act → World → Prop} {p : Int} (hgd : o.guard = none) (s x : Operand)
    (ho : o.op = .call { callee := .builtin .append, args := #[s, x], argTypes := #[36, 36] }) (base : Nat) (L : List Int) (v : Value) (hs : a.eval s = v) (hown : w.ownsRow base 3 1 v L.length (irow L))
    (hx : a.eval x = .slice (some ⟨w.heap.size, 0, none⟩) 1 1) (hL : L.length ≤ 200) (hbase : base ≤ w.heap.size)
    (h : ∀ v' w', w'.ownsRow base 3 1 v' (L ++ [p]).length (irow (L ++ [p])) → w.grownBy w' v.ownBlock → (∀ g, v'.ownBlock = some g → v.ownBlock = some g ∨ w.heap.size ≤ g) → wpList Try.prog ops Q rest (a.put o.dst v') w') :
    wpList Try.prog ops Q (o :: rest) a (w.alloc (.cells #[.int .i64 p] 3)) := by
  obtain ⟨i0, hi, hz0, hz1, hz2⟩ := info_parts info_int
  refine wpList_append_new hgd s x 36 ho base 3 i0 (.int .i64 0) 1 8 Try.underlying36 hi hz0 hz1 hz2 rfl (by decide) v L.length (irow L) hs (World.ownsRow.alloc hown _) ⟨w.heap.size, 0, none⟩ 1 1 [.int .i64 p] hx rfl (int_at w p 3) (by intro u hu; simp at hu; subst hu; rfl) (by unfold maxLen; omega) (by omega) (by simp; omega) ?_
  intro v' w' h1 h2 h3
  refine h v' w' (by rw [irow_snoc, List.length_append]; exact h1) ?_ (fun g hg => ?_)
  · exact ⟨h2.os, h2.tape, h2.output, Nat.le_trans (by simp) h2.size, fun k hk hne => (h2.block k (by simp; omega) hne).trans ((World.grownBy_alloc w _ none).block k hk (by simp))⟩
  · rcases h3 g hg with q | q
    · exact .inl q
    · exact .inr (by simp at q; omega)
set_option maxRecDepth 100000 in
set_option maxHeartbeats 16000000 in
theorem specLifeRun_any (m e s : Int) (a : Option Addr) (n c : Nat) (M : Nat → VT) (w : World) (hm : n ≤ maxLen) (hs : SrcC w a (n * 2) (MFIval M)) :
    Calls Try.prog 27 #[.agg #[.int .i64 m, .int .i64 e, .int .i64 s], .slice a n c] w fun x w' => ∃ v, x = .returned (.tuple #[.agg #[.int .i64 (lrA M n m e s).1, .int .i64 (lrA M n m e s).2.1, .int .i64 (lrA M n m e s).2.2], v]) ∧ w'.ownsRow w.heap.size 3 1 v (lrL M n m e s).length (irow (lrL M n m e s)) ∧ Below w.heap.size w w' := by
  have A0 := Below.nw w (.cells #[.int .i64 m, .int .i64 e, .int .i64 s] 25)
  have A1 := Below.nw (w.alloc (.cells #[.int .i64 m, .int .i64 e, .int .i64 s] 25)) (.cells #[.int .i64 0, .int .i64 0, .int .i64 0] 25)
  have A2 := Below.nw ((w.alloc (.cells #[.int .i64 m, .int .i64 e, .int .i64 s] 25)).alloc (.cells #[.int .i64 0, .int .i64 0, .int .i64 0] 25)) (.cells #[] 3)
  have N := ((Tx3.new w (.int .i64 m) (.int .i64 e) (.int .i64 s) 25).below A1).below A2
  have R := (Tx3.new (w.alloc (.cells #[.int .i64 m, .int .i64 e, .int .i64 s] 25)) (.int .i64 0) (.int .i64 0) (.int .i64 0) 25).below A2
  have OW := made_int ((w.alloc (.cells #[.int .i64 m, .int .i64 e, .int .i64 s] 25)).alloc (.cells #[.int .i64 0, .int .i64 0, .int .i64 0] 25))
  have B := (A0.trans (A1.mono A0.size)).trans (A2.mono (A0.trans (A1.mono A0.size)).size)
  have hjs : w.heap.size + 2 ≤ (((w.alloc (.cells #[.int .i64 m, .int .i64 e, .int .i64 s] 25)).alloc (.cells #[.int .i64 0, .int .i64 0, .int .i64 0] 25)).alloc (.cells #[] 3)).heap.size := by simp
  simp only [World.size_alloc] at R OW
  clear A0 A1 A2
  have HS : Hid (SrcC w a (n * 2) (MFIval M)) := hs
  clear hs
  unfold maxLen at hm
  by_cases h2 : 200 < (n : Int)
  · rw [show lrA M n m e s = (m, e, s) by unfold lrA; rw [decide_eq_false (by omega)], show lrL M n m e s = [] by unfold lrL; rw [decide_eq_false (by omega)]]
    go_enter Try.func27, Try.ntmps27
    go_upto_region 2 with fail
    generalize ((w.alloc (.cells #[.int .i64 m, .int .i64 e, .int .i64 s] 25)).alloc (.cells #[.int .i64 0, .int .i64 0, .int .i64 0] 25)).alloc (.cells #[] 3) = v at *
    have RR := ((R.set0 (.int .i64 (m))).set1 (.int .i64 (e))).set2 (.int .i64 (s))
    have bz : But (w.heap.size + 1) v _ := (((But.refl (w.heap.size + 1) v).setCell 0 (.int .i64 (m))).setCell 1 (.int .i64 (e))).setCell 2 (.int .i64 (s))
    have OO := own_butK OW bz (by omega)
    have BB := B.trans (bz.below (Nat.le_add_right w.heap.size 1) B.size)
    obtain ⟨r0, r1, r2, r3, r4, r5, r6⟩ := id R
    obtain ⟨n0, n1, n2, n3, n4, n5, n6⟩ := id N
    go_wp2_with fail
    clear n0 n1 n2 n3 n4 n5 n6
    clear r0 r1 r2 r3 r4 r5 r6 bz OW
    generalize ((v.setCell ⟨w.heap.size + 1, 0, none⟩ (.int .i64 (m))).setCell ⟨w.heap.size + 1, 1, none⟩ (.int .i64 (e))).setCell ⟨w.heap.size + 1, 2, none⟩ (.int .i64 (s)) = vz at *
    obtain ⟨r0, r1, r2, r3, r4, r5, r6⟩ := id RR
    exact bodyPost_ret (v := .tuple #[.agg #[.int .i64 m, .int .i64 e, .int .i64 s], .slice (some ⟨w.heap.size + 2, 0, none⟩) 0 0]) (by simp (maxDischargeDepth := 6) [results, Try.results27, go_sem, r1, r2, r3]) rfl ⟨_, rfl, own_base17 OO (Nat.le_add_right w.heap.size 2), BB⟩
  rw [show lrA M n m e s = lrT M m e s n by unfold lrA; rw [decide_eq_true (by omega)], show lrL M n m e s = lrC M m e s n by unfold lrL; rw [decide_eq_true (by omega)]]
  have hn2 : n ≤ 200 := by omega
  have HSTEP : Hid (∀ q a1 a2 a3 x0 x1, lrT M m e s q = (a1, a2, a3) → M q = (x0, x1) → lrC M m e s (q + 1) = lrC M m e s q ++ [stC a1 a2 a3 x0 x1] ∧ (stC a1 a2 a3 x0 x1 = 0 → lrT M m e s (q + 1) = (stM a1 a2 a3 x0 x1, stE a1 a2 a3 x0 x1, stS a1 a2 a3 x0 x1)) ∧ (stC a1 a2 a3 x0 x1 ≠ 0 → lrT M m e s (q + 1) = (a1, a2, a3))) := fun q a1 a2 a3 x0 x1 => lr_step M m e s q a1 a2 a3 x0 x1
  have HLEN : Hid (∀ q, (lrC M m e s q).length = q) := lrC_len M m e s
  have HT0 : Hid (lrT M m e s 0 = (m, e, s)) := rfl
  have HC0 : Hid (lrC M m e s 0 = []) := rfl
  generalize lrT M m e s = LT at *
  generalize lrC M m e s = LC at *
  go_enter Try.func27, Try.ntmps27
  go_upto_region 2 with fail
  generalize ((w.alloc (.cells #[.int .i64 m, .int .i64 e, .int .i64 s] 25)).alloc (.cells #[.int .i64 0, .int .i64 0, .int .i64 0] 25)).alloc (.cells #[] 3) = v at *
  have HN1 : Hid (Tx3 v w.heap.size (.int .i64 m) (.int .i64 e) (.int .i64 s)) := N
  have HR1 : Hid (Tx3 v (w.heap.size + 1) (.int .i64 0) (.int .i64 0) (.int .i64 0)) := R
  have HO1 : Hid (v.ownsRow (w.heap.size + 2) 3 1 (.slice (some ⟨w.heap.size + 2, 0, none⟩) 0 0) (LC 0).length (irow (LC 0))) := by rw [Hid, HC0.out]; exact OW
  have HJ1 : Hid (w.heap.size + 2 ≤ v.heap.size) := hjs
  have HB1 : Hid (Below w.heap.size w v) := B
  clear N R OW hjs B
  go_wp2_with fail
  go_loopw [6, 7] (fun s6 i wr => ∃ (q : Nat) (a1 a2 a3 : Int), q ≤ n ∧ i = .int .i64 q ∧ LT q = (a1, a2, a3) ∧ Tx3 wr w.heap.size (.int .i64 a1) (.int .i64 a2) (.int .i64 a3) ∧ Tx3 wr (w.heap.size + 1) (.int .i64 0) (.int .i64 0) (.int .i64 0) ∧ wr.ownsRow (w.heap.size + 2) 3 1 s6 (LC q).length (irow (LC q)) ∧ w.heap.size + 2 ≤ wr.heap.size ∧ Below w.heap.size w wr) (fun _ i _ => n - (intOf i).toNat)
  case atStart => exact ⟨0, m, e, s, Nat.zero_le _, rfl, HT0.out, HN1.out, HR1.out, HO1.out, HJ1.out, HB1.out⟩
  case round =>
    clear HN1 HR1 HO1 HJ1 HB1
    obtain ⟨q, a1, a2, a3, hq, rfl, hT, N, R, OW, hjs, B⟩ := hrel
    by_cases hlt : q < n
    · have hli : (q : Int) < (n : Int) := by omega
      have HQ : Hid (q < n) := hlt
      obtain ⟨x0, x1, hM⟩ := tupIval M q
      obtain ⟨b, off, rfl, hf⟩ : ∃ b off, a = some ⟨b, off, none⟩ ∧ Cs w b off (n * 2) (MFIval M) := by
        rcases HS.out with r | r
        · exact absurd r (by omega)
        · exact r
      have hf' := hf.below B hf.1
      have hbb := hf'.1
      obtain ⟨c0, c1⟩ := hf'.elIval hlt hM
      obtain ⟨st1, st2, st3⟩ := HSTEP.out q a1 a2 a3 x0 x1 hT hM
      have HS1 : Hid (LC (q + 1) = LC q ++ [stC a1 a2 a3 x0 x1]) := st1
      have HS2 : Hid (stC a1 a2 a3 x0 x1 = 0 → LT (q + 1) = (stM a1 a2 a3 x0 x1, stE a1 a2 a3 x0 x1, stS a1 a2 a3 x0 x1)) := st2
      have HS3 : Hid (stC a1 a2 a3 x0 x1 ≠ 0 → LT (q + 1) = (a1, a2, a3)) := st3
      have hlen : (LC q).length ≤ 200 := by rw [HLEN.out]; omega
      have CS := fun w' => specLifeStep_any a1 a2 a3 x0 x1 w'
      generalize stM a1 a2 a3 x0 x1 = AA at *
      generalize stE a1 a2 a3 x0 x1 = EE at *
      generalize stS a1 a2 a3 x0 x1 = SS at *
      generalize stC a1 a2 a3 x0 x1 = CC at *
      have SK : Hid (∀ w', Below wr.heap.size wr w' → (fun w' => w'.cell? ⟨w.heap.size, 0, none⟩ = some (.int .i64 a1) ∧ w'.cell? ⟨w.heap.size, 1, none⟩ = some (.int .i64 a2) ∧ w'.cell? ⟨w.heap.size, 2, none⟩ = some (.int .i64 a3) ∧ w'.cell? ⟨b, off + q * 2, none⟩ = some (.int .i64 x0) ∧ w'.cell? ⟨b, off + q * 2 + 1, none⟩ = some (.int .i64 x1)) w') := fun w' hw => ⟨(N.below hw).2.1, (N.below hw).2.2.1, (N.below hw).2.2.2.1, (by rw [hw.cell (p := ⟨b, off + q * 2, none⟩) hbb]; exact c0), (by rw [hw.cell (p := ⟨b, off + q * 2 + 1, none⟩) hbb]; exact c1)⟩
      clear st1 st2 st3 hM hf hf' hT hlt hq HSTEP HLEN HS c0 c1
      go_upto_region 7 with fail
      go_cut [8, 9] (fun s8 s9 wx => ∃ j : Nat, s8 = .pointer (some ⟨j, 0, none⟩) ∧ s9 = .int .i64 CC ∧ Tx3 wx j (.int .i64 AA) (.int .i64 EE) (.int .i64 SS) ∧ wr.heap.size ≤ j ∧ Below wr.heap.size wr wx)
      case first => as_aux_lemma =>
        refine wp_region_held_drew (S := (fun w' => w'.cell? ⟨w.heap.size, 0, none⟩ = some (.int .i64 a1) ∧ w'.cell? ⟨w.heap.size, 1, none⟩ = some (.int .i64 a2) ∧ w'.cell? ⟨w.heap.size, 2, none⟩ = some (.int .i64 a3) ∧ w'.cell? ⟨b, off + q * 2, none⟩ = some (.int .i64 x0) ∧ w'.cell? ⟨b, off + q * 2 + 1, none⟩ = some (.int .i64 x1))) (by kernel_rfl) ?_ (fun hHeld => ?_)
        · first | exact SK.out _ XB | exact SK.out _ (Below.drew (Below.refl _ _)) | exact SK.out _ XZ
        have XB : Below wr.heap.size wr wr.drew := Below.drew (Below.refl _ _)
        generalize wr.drew = vx at *
        refine wpAnyH_take (i := 0) (v := ?_) (by rw [List.getElem?_toArray]; rfl) (by kernel_rfl) (by kernel_rfl) (by kernel_rfl) (by intro _ _ _ h; exact h) (Or.inl ⟨by rfl, ?_⟩) (by assumption) ?_
        rotate_left
        · (intro w hSw; (try dsimp only at hSw); go_simp; all_goals with_reducible rfl)
        (try simp only [Act.put, List.setIfInBounds_toArray, List.set_cons_zero, List.set_cons_succ])
        refine wpAnyH_take (i := 1) (v := ?_) (by rw [List.getElem?_toArray]; rfl) (by kernel_rfl) (by kernel_rfl) (by kernel_rfl) (by intro _ _ _ h; exact h) (Or.inl ⟨by rfl, ?_⟩) (by assumption) ?_
        rotate_left
        · (intro w hSw; (try dsimp only at hSw); go_simp; all_goals with_reducible rfl)
        (try simp only [Act.put, List.setIfInBounds_toArray, List.set_cons_zero, List.set_cons_succ])
        refine wpAnyH_take (i := 2) (v := ?_) (by rw [List.getElem?_toArray]; rfl) (by kernel_rfl) (by kernel_rfl) (by kernel_rfl) (by intro _ _ _ h; exact h) (Or.inl ⟨by rfl, ?_⟩) (by assumption) ?_
        rotate_left
        · (intro w hSw; (try dsimp only at hSw); go_simp; all_goals with_reducible rfl)
        (try simp only [Act.put, List.setIfInBounds_toArray, List.set_cons_zero, List.set_cons_succ])
        refine wpAnyH_take (i := 3) (v := ?_) (by rw [List.getElem?_toArray]; rfl) (by kernel_rfl) (by kernel_rfl) (by kernel_rfl) (by intro _ _ _ h; exact h) (Or.inl ⟨by rfl, ?_⟩) (by assumption) ?_
        rotate_left
        · (intro w hSw; (try dsimp only at hSw); go_simp; all_goals with_reducible rfl)
        (try simp only [Act.put, List.setIfInBounds_toArray, List.set_cons_zero, List.set_cons_succ])
        refine wpAnyH_take (i := 4) (v := ?_) (by rw [List.getElem?_toArray]; rfl) (by kernel_rfl) (by kernel_rfl) (by kernel_rfl) (by intro _ _ _ h; exact h) (Or.inl ⟨by rfl, ?_⟩) (by assumption) ?_
        rotate_left
        · (intro w hSw; (try dsimp only at hSw); go_simp; all_goals with_reducible rfl)
        (try simp only [Act.put, List.setIfInBounds_toArray, List.set_cons_zero, List.set_cons_succ])
        refine wpAnyH_ready (rs := [5, 9]) (by kernel_rfl) (by simp) ?_
        refine (AllReadyH.cons (by rw [List.getElem?_toArray]; rfl) (fun K hK => ?_) (AllReadyH.cons (by rw [List.getElem?_toArray]; rfl) (fun K hK => ?_) AllReadyH.nil))
        · go_simp
          refine (CS vx).mono ?_; rintro ee vx ⟨rfl, hbl⟩; (replace XB := XB.trans (hbl.mono XB.size)); (clear hbl)
          (try go_wp2_with fail)
          refine hK.out _ _ ?_ (fun hHeld => ?_)
          · first | exact SK.out _ XB | exact SK.out _ (Below.drew (Below.refl _ _)) | exact SK.out _ XZ
          clear hK K
          (try simp only [Act.put, List.setIfInBounds_toArray, List.set_cons_zero, List.set_cons_succ])
          refine wpAnyH_take (i := 6) (v := ?_) (by rw [List.getElem?_toArray]; rfl) (by kernel_rfl) (by kernel_rfl) (by kernel_rfl) (by intro _ _ _ h; exact h) (Or.inl ⟨by rfl, ?_⟩) (by assumption) ?_
          rotate_left
          · (intro w hSw; (try dsimp only at hSw); go_simp; all_goals with_reducible rfl)
          (try simp only [Act.put, List.setIfInBounds_toArray, List.set_cons_zero, List.set_cons_succ])
          refine wpAnyH_take (i := 7) (v := ?_) (by rw [List.getElem?_toArray]; rfl) (by kernel_rfl) (by kernel_rfl) (by kernel_rfl) (by intro _ _ _ h; exact h) (Or.inl ⟨by rfl, ?_⟩) (by assumption) ?_
          rotate_left
          · (intro w hSw; (try dsimp only at hSw); go_simp; all_goals with_reducible rfl)
          (try simp only [Act.put, List.setIfInBounds_toArray, List.set_cons_zero, List.set_cons_succ])
          refine wpAnyH_take (i := 8) (v := ?_) (by rw [List.getElem?_toArray]; rfl) (by kernel_rfl) (by kernel_rfl) (by kernel_rfl) (by intro _ _ _ h; exact h) (Or.inl ⟨by rfl, ?_⟩) (by assumption) ?_
          rotate_left
          · (intro w hSw; (try dsimp only at hSw); go_simp; all_goals with_reducible rfl)
          (try simp only [Act.put, List.setIfInBounds_toArray, List.set_cons_zero, List.set_cons_succ])
          refine wpAnyH_ready (rs := [9]) (by kernel_rfl) (by simp) ?_
          refine (AllReadyH.cons (by rw [List.getElem?_toArray]; rfl) (fun K hK => ?_) AllReadyH.nil)
          go_simp
          (have Z := Tx3.new vx (.int .i64 0) (.int .i64 0) (.int .i64 0) 25); (have NL := Below.nw vx (.cells #[.int .i64 0, .int .i64 0, .int .i64 0] 25)); (have hzv := XB.size); (replace XB := XB.trans (NL.mono XB.size)); (clear NL); (generalize vx.alloc (.cells #[.int .i64 0, .int .i64 0, .int .i64 0] 25) = vy at *); (generalize vx.heap.size = jz at *); (have XZ := ((XB.setCell (p := ⟨jz, 0, none⟩) hzv (.int .i64 AA)).setCell (p := ⟨jz, 1, none⟩) hzv (.int .i64 EE)).setCell (p := ⟨jz, 2, none⟩) hzv (.int .i64 SS)); (have ZZ := ((Z.set0 (.int .i64 AA)).set1 (.int .i64 EE)).set2 (.int .i64 SS)); (obtain ⟨z0, z1, z2, z3, z4, z5, z6⟩ := id Z)
          refine hK.out _ _ ?_ (fun hHeld => ?_)
          · first | exact SK.out _ XB | exact SK.out _ (Below.drew (Below.refl _ _)) | exact SK.out _ XZ
          clear hK K
          (try simp only [Act.put, List.setIfInBounds_toArray, List.set_cons_zero, List.set_cons_succ])
          refine wpAnyH_ready (rs := [10]) (by kernel_rfl) (by simp) ?_
          refine (AllReadyH.cons (by rw [List.getElem?_toArray]; rfl) (fun K hK => ?_) AllReadyH.nil)
          go_simp
          refine hK.out _ _ ?_ (fun hHeld => ?_)
          · first | exact SK.out _ XB | exact SK.out _ (Below.drew (Below.refl _ _)) | exact SK.out _ XZ
          clear hK K
          (try simp only [Act.put, List.setIfInBounds_toArray, List.set_cons_zero, List.set_cons_succ])
          refine wpAnyH_take (i := 11) (v := ?_) (by rw [List.getElem?_toArray]; rfl) (by kernel_rfl) (by kernel_rfl) (by kernel_rfl) (by intro _ _ _ h; exact h) (Or.inl ⟨by rfl, ?_⟩) (by assumption) ?_
          rotate_left
          · (intro w hSw; (try dsimp only at hSw); go_simp; all_goals with_reducible rfl)
          (try simp only [Act.put, List.setIfInBounds_toArray, List.set_cons_zero, List.set_cons_succ])
          refine wpAnyH_done (by kernel_rfl) ?_ _
          go_wp2_with fail
          go_meet
          case rel => exact ⟨jz, rfl, rfl, ZZ, hzv, XZ⟩
        · go_simp
          (have Z := Tx3.new vx (.int .i64 0) (.int .i64 0) (.int .i64 0) 25); (have NL := Below.nw vx (.cells #[.int .i64 0, .int .i64 0, .int .i64 0] 25)); (have hzv := XB.size); (replace XB := XB.trans (NL.mono XB.size)); (clear NL); (generalize vx.alloc (.cells #[.int .i64 0, .int .i64 0, .int .i64 0] 25) = vy at *); (generalize vx.heap.size = jz at *)
          refine hK.out _ _ ?_ (fun hHeld => ?_)
          · first | exact SK.out _ XB | exact SK.out _ (Below.drew (Below.refl _ _)) | exact SK.out _ XZ
          clear hK K
          (try simp only [Act.put, List.setIfInBounds_toArray, List.set_cons_zero, List.set_cons_succ])
          refine wpAnyH_ready (rs := [5]) (by kernel_rfl) (by simp) ?_
          refine (AllReadyH.cons (by rw [List.getElem?_toArray]; rfl) (fun K hK => ?_) AllReadyH.nil)
          go_simp
          refine (CS vy).mono ?_; rintro ee vx ⟨rfl, hbl⟩; (replace XB := XB.trans (hbl.mono XB.size)); (replace Z := Z.below hbl); (clear hbl); (have XZ := ((XB.setCell (p := ⟨jz, 0, none⟩) hzv (.int .i64 AA)).setCell (p := ⟨jz, 1, none⟩) hzv (.int .i64 EE)).setCell (p := ⟨jz, 2, none⟩) hzv (.int .i64 SS)); (have ZZ := ((Z.set0 (.int .i64 AA)).set1 (.int .i64 EE)).set2 (.int .i64 SS)); (obtain ⟨z0, z1, z2, z3, z4, z5, z6⟩ := id Z)
          (try go_wp2_with fail)
          refine hK.out _ _ ?_ (fun hHeld => ?_)
          · first | exact SK.out _ XB | exact SK.out _ (Below.drew (Below.refl _ _)) | exact SK.out _ XZ
          clear hK K
          (try simp only [Act.put, List.setIfInBounds_toArray, List.set_cons_zero, List.set_cons_succ])
          refine wpAnyH_take (i := 6) (v := ?_) (by rw [List.getElem?_toArray]; rfl) (by kernel_rfl) (by kernel_rfl) (by kernel_rfl) (by intro _ _ _ h; exact h) (Or.inl ⟨by rfl, ?_⟩) (by assumption) ?_
          rotate_left
          · (intro w hSw; (try dsimp only at hSw); go_simp; all_goals with_reducible rfl)
          (try simp only [Act.put, List.setIfInBounds_toArray, List.set_cons_zero, List.set_cons_succ])
          refine wpAnyH_take (i := 7) (v := ?_) (by rw [List.getElem?_toArray]; rfl) (by kernel_rfl) (by kernel_rfl) (by kernel_rfl) (by intro _ _ _ h; exact h) (Or.inl ⟨by rfl, ?_⟩) (by assumption) ?_
          rotate_left
          · (intro w hSw; (try dsimp only at hSw); go_simp; all_goals with_reducible rfl)
          (try simp only [Act.put, List.setIfInBounds_toArray, List.set_cons_zero, List.set_cons_succ])
          refine wpAnyH_take (i := 8) (v := ?_) (by rw [List.getElem?_toArray]; rfl) (by kernel_rfl) (by kernel_rfl) (by kernel_rfl) (by intro _ _ _ h; exact h) (Or.inl ⟨by rfl, ?_⟩) (by assumption) ?_
          rotate_left
          · (intro w hSw; (try dsimp only at hSw); go_simp; all_goals with_reducible rfl)
          (try simp only [Act.put, List.setIfInBounds_toArray, List.set_cons_zero, List.set_cons_succ])
          refine wpAnyH_ready (rs := [10]) (by kernel_rfl) (by simp) ?_
          refine (AllReadyH.cons (by rw [List.getElem?_toArray]; rfl) (fun K hK => ?_) AllReadyH.nil)
          go_simp
          refine hK.out _ _ ?_ (fun hHeld => ?_)
          · first | exact SK.out _ XB | exact SK.out _ (Below.drew (Below.refl _ _)) | exact SK.out _ XZ
          clear hK K
          (try simp only [Act.put, List.setIfInBounds_toArray, List.set_cons_zero, List.set_cons_succ])
          refine wpAnyH_take (i := 11) (v := ?_) (by rw [List.getElem?_toArray]; rfl) (by kernel_rfl) (by kernel_rfl) (by kernel_rfl) (by intro _ _ _ h; exact h) (Or.inl ⟨by rfl, ?_⟩) (by assumption) ?_
          rotate_left
          · (intro w hSw; (try dsimp only at hSw); go_simp; all_goals with_reducible rfl)
          (try simp only [Act.put, List.setIfInBounds_toArray, List.set_cons_zero, List.set_cons_succ])
          refine wpAnyH_done (by kernel_rfl) ?_ _
          go_wp2_with fail
          go_meet
          case rel => exact ⟨jz, rfl, rfl, ZZ, hzv, XZ⟩
      case rest =>
        obtain ⟨jz, rfl, rfl, Y, hjz, hb⟩ := hcut
        clear SK CS hbb
        generalize wc = v1 at *
        have HNE : Hid (∀ g, u6.ownBlock = some g → g ≠ jz) := fun g hg => by have := (World.ownsRow.lt OW g hg).2; omega
        have hyw : w.heap.size < jz := by omega
        replace B := B.trans (hb.mono B.size)
        replace N := N.below hb
        replace R := R.below hb
        replace OW := own_belK' OW hb
        replace hjs := Nat.le_trans hjs hb.size
        clear hb hjz
        generalize hLq : LC q = Lr at *
        go_upto_region 9 with (at_builtin; refine add_code rfl _ _ rfl (w.heap.size + 2) Lr _ rfl OW rfl hlen hjs ?_; intro v' w9 O9 hg9 hn9)
        have HO9 : Hid (w9.ownsRow (w.heap.size + 2) 3 1 v' (Lr ++ [CC]).length (irow (Lr ++ [CC]))) := O9
        have G9 := grown_belowK OW hg9 hjs
        replace N := N.belowB G9 (by omega)
        replace R := R.belowB G9 (by omega)
        replace Y := Y.kept hg9 (fun e => HNE.out jz e.symm rfl)
        replace B := B.trans (G9.mono (Nat.le_add_right w.heap.size 2))
        replace hjs : w.heap.size + 2 ≤ w9.heap.size := Nat.le_trans hjs hg9.size
        clear O9 hg9 hn9 G9 OW HNE hLq
        by_cases hz : CC = 0
        · have hq0 : (CC == 0) = true := by simp [hz]
          have HL : Hid (LT (q + 1) = (AA, EE, SS)) := HS2.out hz
          clear hz HS2 HS3
          have NN := ((N.set0 (.int .i64 AA)).set1 (.int .i64 EE)).set2 (.int .i64 SS)
          have bz : But w.heap.size w9 _ := (((But.refl w.heap.size w9).setCell 0 (.int .i64 AA)).setCell 1 (.int .i64 EE)).setCell 2 (.int .i64 SS)
          have RZ := R.but bz (by omega)
          have OZ := own_butK HO9.out bz (by omega)
          have BZ := B.trans (bz.below (Nat.le_refl _) B.size)
          have JZ : w.heap.size + 2 ≤ (((w9.setCell ⟨w.heap.size, 0, none⟩ (.int .i64 AA)).setCell ⟨w.heap.size, 1, none⟩ (.int .i64 EE)).setCell ⟨w.heap.size, 2, none⟩ (.int .i64 SS)).heap.size := Nat.le_trans hjs bz.2.2.2.1
          have HREL : Hid (Tx3 (((w9.setCell ⟨w.heap.size, 0, none⟩ (.int .i64 AA)).setCell ⟨w.heap.size, 1, none⟩ (.int .i64 EE)).setCell ⟨w.heap.size, 2, none⟩ (.int .i64 SS)) w.heap.size (.int .i64 AA) (.int .i64 EE) (.int .i64 SS) ∧ Tx3 (((w9.setCell ⟨w.heap.size, 0, none⟩ (.int .i64 AA)).setCell ⟨w.heap.size, 1, none⟩ (.int .i64 EE)).setCell ⟨w.heap.size, 2, none⟩ (.int .i64 SS)) (w.heap.size + 1) (.int .i64 0) (.int .i64 0) (.int .i64 0) ∧ (((w9.setCell ⟨w.heap.size, 0, none⟩ (.int .i64 AA)).setCell ⟨w.heap.size, 1, none⟩ (.int .i64 EE)).setCell ⟨w.heap.size, 2, none⟩ (.int .i64 SS)).ownsRow (w.heap.size + 2) 3 1 v' (Lr ++ [CC]).length (irow (Lr ++ [CC])) ∧ w.heap.size + 2 ≤ (((w9.setCell ⟨w.heap.size, 0, none⟩ (.int .i64 AA)).setCell ⟨w.heap.size, 1, none⟩ (.int .i64 EE)).setCell ⟨w.heap.size, 2, none⟩ (.int .i64 SS)).heap.size ∧ Below w.heap.size w (((w9.setCell ⟨w.heap.size, 0, none⟩ (.int .i64 AA)).setCell ⟨w.heap.size, 1, none⟩ (.int .i64 EE)).setCell ⟨w.heap.size, 2, none⟩ (.int .i64 SS))) := ⟨NN, RZ, OZ, JZ, BZ⟩
          obtain ⟨y0, y1, y2, y3, y4, y5, y6⟩ := id Y
          clear NN bz RZ OZ BZ JZ HO9 R B Y
          obtain ⟨n0, n1, n2, n3, n4, n5, n6⟩ := id N
          go_wp2_with fail
          clear n0 n1 n2 n3 n4 n5 n6 y0 y1 y2 y3 y4 y5 y6 N
          go_roundw
          case rel => exact ⟨q + 1, AA, EE, SS, HQ.out, by go_num, HL.out, HREL.out.1, HREL.out.2.1, by rw [HS1.out]; exact HREL.out.2.2.1, HREL.out.2.2.2.1, HREL.out.2.2.2.2⟩
          case measure => have hlt' := HQ.out; simp [intOf]; omega
        · have hq0 : (CC == 0) = false := by simp [hz]
          have HL : Hid (LT (q + 1) = (a1, a2, a3)) := HS3.out hz
          have HREL : Hid (Tx3 w9 w.heap.size (.int .i64 a1) (.int .i64 a2) (.int .i64 a3) ∧ Tx3 w9 (w.heap.size + 1) (.int .i64 0) (.int .i64 0) (.int .i64 0)) := ⟨N, R⟩
          clear hz HS2 HS3 N R Y
          go_wp2_with fail
          go_roundw
          case rel => exact ⟨q + 1, a1, a2, a3, HQ.out, by go_num, HL.out, HREL.out.1, HREL.out.2, by rw [HS1.out]; exact HO9.out, hjs, B⟩
          case measure => have hlt' := HQ.out; simp [intOf]; omega
    · have hkn : q = n := by omega
      subst hkn
      have hli : ¬ (q : Int) < (q : Int) := by omega
      have HTq : Hid (LT q = (a1, a2, a3)) := hT
      clear HSTEP HLEN HS hT hlt hq h2 hm
      have RR := ((R.set0 (.int .i64 (a1))).set1 (.int .i64 (a2))).set2 (.int .i64 (a3))
      have bz : But (w.heap.size + 1) wr _ := (((But.refl (w.heap.size + 1) wr).setCell 0 (.int .i64 (a1))).setCell 1 (.int .i64 (a2))).setCell 2 (.int .i64 (a3))
      have OO := own_butK OW bz (by omega)
      have BB := B.trans (bz.below (Nat.le_add_right w.heap.size 1) B.size)
      obtain ⟨r0, r1, r2, r3, r4, r5, r6⟩ := id R
      obtain ⟨n0, n1, n2, n3, n4, n5, n6⟩ := id N
      go_wp2_with fail
      clear n0 n1 n2 n3 n4 n5 n6
      clear r0 r1 r2 r3 r4 r5 r6 bz OW
      generalize ((wr.setCell ⟨w.heap.size + 1, 0, none⟩ (.int .i64 (a1))).setCell ⟨w.heap.size + 1, 1, none⟩ (.int .i64 (a2))).setCell ⟨w.heap.size + 1, 2, none⟩ (.int .i64 (a3)) = vz at *
      obtain ⟨r0, r1, r2, r3, r4, r5, r6⟩ := id RR
      exact bodyPost_ret (v := .tuple #[.agg #[.int .i64 a1, .int .i64 a2, .int .i64 a3], u6]) (by simp (maxDischargeDepth := 6) [results, Try.results27, go_sem, r1, r2, r3]) rfl ⟨_, by rw [HTq.out], own_base17 OO (Nat.le_add_right w.heap.size 2), BB⟩
end Go.Proofs.Yteifibajafdnlaa
