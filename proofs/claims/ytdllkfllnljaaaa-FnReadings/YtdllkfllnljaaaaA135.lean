/- The program: AppRun. -/
import Derived.Test.YtdllkfllnljaaaaA133
import Derived.Deep.RegionHeld3
import Derived.Laws.EntriesVeiled
import Derived.Laws.MakeOwn
import Derived.WalkKit
import Derived.WalkSpells
import Derived.WalkLawsBesides
import Derived.Deep.RegionHeld
namespace Go.Proofs.Ytdllkfllnljaaaa
open Go.RowKit
set_option linter.unusedVariables false
theorem Tx3.kept {w w' : World} {q : Option Nat} {k : Nat} {u0 u1 u2 : Value} (h : Tx3 w k u0 u1 u2) (hg : w.grownBy w' q) (hq : some k ≠ q) : Tx3 w' k u0 u1 u2 := by
  obtain ⟨h0, h1, h2, h3, f1, f2, f3⟩ := h
  have cc : ∀ i, w'.cell? ⟨k, i, none⟩ = w.cell? ⟨k, i, none⟩ := fun i => cell_grown hg h0 hq
  have ff : ∀ i, w'.frozen? ⟨k, i, none⟩ = w.frozen? ⟨k, i, none⟩ := fun i => by have := hg.block k h0 hq; simp only [World.frozen?]; rw [this]
  exact ⟨Nat.lt_of_lt_of_le h0 hg.size, by rw [cc]; exact h1, by rw [cc]; exact h2, by rw [cc]; exact h3, by rw [ff]; exact f1, by rw [ff]; exact f2, by rw [ff]; exact f3⟩
theorem mk_capR (m : Nat) (h : m ≤ 200) (w : World) : (Instr.makeSlice 34 (.int .i64 0) (.int .i64 (m : Int))).run Try.prog w = .ok (.slice (some ⟨w.heap.size, 0, none⟩) 0 m) (w.alloc (rowObjReading m)) := by
  obtain ⟨i, hi, hz⟩ := Option.map_eq_some_iff.1 infoReading
  simp only [Prod.mk.injEq] at hz
  obtain ⟨h1, h2, h3⟩ := hz
  have hr := run_make (P := Try.prog) w 34 40 i _ Try.underlying34 hi h1 .i64 .i64 0 m (by omega) (by omega) (by rw [h3]; omega) (by omega)
  simp only [Int.toNat_natCast, h2] at hr
  exact hr
theorem own_capR (m : Nat) (h : m ≤ 200) (w : World) : (w.alloc (rowObjReading m)).ownsRow w.heap.size 40 3 (.slice (some ⟨w.heap.size, 0, none⟩) 0 m) ([] : List RgT).length (grow []) := World.ownsRow_made w _ m (Nat.le_refl _) (by unfold maxLen; omega) (size_madeCells _ _)

set_option maxRecDepth 100000 in
set_option maxHeartbeats 16000000 in
theorem implAppRun_any (h : Bool) (l : Int) (a : Option Addr) (n c : Nat) (M : Nat → LkT) (w : World) (hm : n ≤ maxLen) (hs : SrcC w a (n * 3) (MFLook M)) :
    Calls Try.prog 13 #[.agg #[.bool h, .int .i64 l], .slice a n c] w fun e w' => ∃ v, e = .returned (.tuple #[v, .agg #[.bool (anS M h l (anZ n)).1, .int .i64 (anS M h l (anZ n)).2]]) ∧ w'.ownsRow w.heap.size 40 3 v (anR M h l (anZ n)).length (grow (anR M h l (anZ n))) ∧ Below w.heap.size w w' := by
  have HS : Hid (SrcC w a (n * 3) (MFLook M)) := hs
  clear hs
  unfold maxLen at hm
  have A0 := Below.nw w (.cells #[.bool h, .int .i64 l] 25)
  have A1 := Below.nw (w.alloc (.cells #[.bool h, .int .i64 l] 25)) (.cells #[.bool false, .int .i64 0] 25)
  have N := (Bx2.new w (.bool h) (.int .i64 l) 25).below A1
  have R := Bx2.new (w.alloc (.cells #[.bool h, .int .i64 l] 25)) (.bool false) (.int .i64 0) 25
  have B := A0.trans (A1.mono A0.size)
  simp only [World.size_alloc] at R
  clear A0 A1
  have hj : w.heap.size ≤ w.heap.size + 1 := by omega
  have d1 : w.heap.size ≠ w.heap.size + 1 := by omega
  by_cases h200 : 200 < n
  · have hi2 : (200 : Int) < (n : Int) := by omega
    rw [anZ_f h200]
    go_enter Try.func13, Try.ntmps13
    go_upto_region 1 with fail
    generalize ((w.alloc (.cells #[.bool h, .int .i64 l] 25)).alloc (.cells #[.bool false, .int .i64 0] 25)) = v at *
    generalize w.heap.size + 1 = jr at *
    have RR := (R.set0 (.bool h)).set1 (.int .i64 l)
    have BB := (B.setCell (p := ⟨jr, 0, none⟩) hj (.bool h)).setCell (p := ⟨jr, 1, none⟩) hj (.int .i64 l)
    obtain ⟨n0, n1, n2, n3, n4⟩ := id N
    obtain ⟨r0, r1, r2, r3, r4⟩ := id R
    go_upto_region 2 with fail
    refine wp_region_held_drew (S := (fun w' => w'.cell? ⟨w.heap.size, 0, none⟩ = some (.bool h) ∧ w'.cell? ⟨w.heap.size, 1, none⟩ = some (.int .i64 l))) (by kernel_rfl) ?_ (fun hHeld => ?_)
    · first | exact ⟨n1, n2⟩ | exact ⟨keepC (keepC n1 d1) d1, keepC (keepC n2 d1) d1⟩
    refine wpAnyH_take (i := 0) (v := ?_) (by rw [List.getElem?_toArray]; rfl) (by kernel_rfl) (by kernel_rfl) (by kernel_rfl) (by intro _ _ _ h; exact h) (Or.inl ⟨by rfl, ?_⟩) (by assumption) ?_
    rotate_left
    · (intro w hSw; (try dsimp only at hSw); go_simp; all_goals with_reducible rfl)
    (try simp only [Act.put, List.setIfInBounds_toArray, List.set_cons_zero, List.set_cons_succ])
    refine wpAnyH_take (i := 1) (v := ?_) (by rw [List.getElem?_toArray]; rfl) (by kernel_rfl) (by kernel_rfl) (by kernel_rfl) (by intro _ _ _ h; exact h) (Or.inl ⟨by rfl, ?_⟩) (by assumption) ?_
    rotate_left
    · (intro w hSw; (try dsimp only at hSw); go_simp; all_goals with_reducible rfl)
    (try simp only [Act.put, List.setIfInBounds_toArray, List.set_cons_zero, List.set_cons_succ])
    refine wpAnyH_ready (rs := [2]) (by kernel_rfl) (by simp) ?_
    refine AllReadyH.cons (by rw [List.getElem?_toArray]; rfl) (fun K hK => ?_) AllReadyH.nil
    go_simp
    refine hK.out _ _ ?_ (fun hHeld => ?_)
    · first | exact ⟨n1, n2⟩ | exact ⟨keepC (keepC n1 d1) d1, keepC (keepC n2 d1) d1⟩
    clear hK K
    (try simp only [Act.put, List.setIfInBounds_toArray, List.set_cons_zero, List.set_cons_succ])
    refine wpAnyH_done (by kernel_rfl) ?_ _
    go_wp2_with fail
    clear r0 r1 r2 r3 r4
    clear n0 n1 n2 n3 n4
    generalize (v.setCell ⟨jr, 0, none⟩ (.bool h)).setCell ⟨jr, 1, none⟩ (.int .i64 l) = vz at *
    obtain ⟨r0, r1, r2, r3, r4⟩ := id RR
    exact bodyPost_ret (v := (.tuple #[.slice none 0 0, .agg #[.bool h, .int .i64 l]])) (by simp (maxDischargeDepth := 6) [results, Try.results13, go_sem, *]) rfl ⟨.slice none 0 0, rfl, nil_reading _ _, Below.drew BB⟩
  · have hn : n ≤ 200 := by omega
    have hi2 : ¬ (200 : Int) < (n : Int) := by omega
    rw [anZ_t hn]
    go_enter Try.func13, Try.ntmps13
    go_upto_region 1 with fail
    generalize ((w.alloc (.cells #[.bool h, .int .i64 l] 25)).alloc (.cells #[.bool false, .int .i64 0] 25)) = v at *
    generalize w.heap.size + 1 = jr at *
    have NL := Below.nw v (.cells #[.bool h, .int .i64 l, (.func (.func 42) #[] #[])] 75)
    have K := Tx3.new v (.bool h) (.int .i64 l) (.func (.func 42) #[] #[]) 75
    have hcw : w.heap.size ≤ v.heap.size := B.size
    have dcr : v.heap.size ≠ jr := Nat.ne_of_gt R.1
    obtain ⟨n0, n1, n2, n3, n4⟩ := id N
    go_upto_region 4 with fail
    clear n0 n1 n2 n3 n4 N
    replace R := R.below NL
    replace B := B.trans (NL.mono B.size)
    clear NL
    generalize v.alloc (.cells #[.bool h, .int .i64 l, (.func (.func 42) #[] #[])] 75) = v2 at *
    generalize v.heap.size = jc at *
    have hmk := mk_capR n hn
    have NL := Below.nw v2 (rowObjReading n)
    have OW := own_capR n hn v2
    have hjo : jc < v2.heap.size := K.1
    have hjb : w.heap.size ≤ v2.heap.size := B.size
    have hrb : jr < v2.heap.size := R.1
    go_upto_region 5 with fail
    clear hmk
    replace R := R.below NL
    replace K := K.below NL
    replace B := B.trans (NL.mono B.size)
    have hjs : v2.heap.size ≤ (v2.alloc (rowObjReading n)).heap.size := by simp
    clear NL
    generalize v2.alloc (rowObjReading n) = v3 at *
    generalize v2.heap.size = jo at *
    go_wp2_with fail
    go_loopw [7, 21] (fun s7 i wr => ∃ (k : Nat) (H : Bool) (T : Int), k ≤ n ∧ i = .int .i64 k ∧ anS M h l k = (H, T) ∧ Tx3 wr jc (.bool H) (.int .i64 T) (.func (.func 42) #[] #[]) ∧ Bx2 wr jr (.bool false) (.int .i64 0) ∧ wr.ownsRow jo 40 3 s7 (anR M h l k).length (grow (anR M h l k)) ∧ jo ≤ wr.heap.size ∧ Below w.heap.size w wr) (fun _ i _ => n - (intOf i).toNat)
    case atStart => exact ⟨0, h, l, Nat.zero_le _, rfl, rfl, K, R, OW, hjs, B⟩
    case round =>
      clear K R OW B hjs
      obtain ⟨k, H, T, hk, rfl, hS, K, R, OW, hjs, B⟩ := hrel
      by_cases hlt : k < n
      · obtain ⟨b, off, rfl, hf⟩ : ∃ b off, a = some ⟨b, off, none⟩ ∧ Cs w b off (n * 3) (MFLook M) := by
          rcases HS.out with q | q
          · exact absurd q (by omega)
          · exact q
        obtain ⟨y, lo, hi, hM⟩ := tupLook M k
        obtain ⟨c1, c2, c3⟩ := (hf.below B hf.1).elLook hlt hM
        have G1 : Hid (anR M h l (k + 1) = anR M h l k ++ [(arX H T y lo hi, arD H T y lo hi, arC H T y lo hi)]) := (an_go hS hM).1
        have G2 : Hid (anS M h l (k + 1) = ((anN (H, T) (y, lo, hi)).1, (anN (H, T) (y, lo, hi)).2)) := by rw [Hid, anS, hS, hM]
        have HLT : Hid (k < n) := hlt
        have hlen : (anR M h l k).length ≤ 1048576 := by rw [anR_len]; omega
        obtain ⟨gm1, gm2⟩ := @gd_mid H T y lo hi
        have CR := fun (w' : World) (H0 : Tx3 w' jc (.bool H) (.int .i64 T) (.func (.func 42) #[] #[])) => read_mid jc H T y lo hi w' H0
        rw [gm1, gm2] at CR
        have hli : (k : Int) < (n : Int) := by omega
        clear hM hS hf HS gm1 gm2
        generalize hLs : anR M h l k = Ls at *
        clear hLs
        generalize arX H T y lo hi = X at *
        generalize arD H T y lo hi = D at *
        generalize arC H T y lo hi = C at *
        generalize anN (H, T) (y, lo, hi) = s at *
        obtain ⟨H', T'⟩ := s
        have NL := Below.nw wr (.cells #[.bool y, .int .i64 lo, .int .i64 hi] 32)
        have Q := Tx3.new wr (.bool y) (.int .i64 lo) (.int .i64 hi) 32
        go_upto_region 8 with fail
        replace R := R.below NL
        replace K := K.below NL
        replace OW := own_belK' OW NL
        replace B := B.trans (NL.mono B.size)
        replace hjs := Nat.le_trans hjs NL.size
        clear NL c1 c2 c3
        generalize wr.alloc (.cells #[.bool y, .int .i64 lo, .int .i64 hi] 32) = wx at *
        generalize wr.heap.size = jk at *
        obtain ⟨q0, q1, q2, q3, q4, q5, q6⟩ := id Q
        go_wp2_with fail
        refine (CR wx K).mono ?_
        rintro e wy ⟨rfl, K', bt⟩
        clear q0 q1 q2 q3 q4 q5 q6 Q K CR
        replace R := R.but bt dcr.symm
        replace OW := own_butK OW bt hjo
        replace B := B.trans (bt.below hcw B.size)
        have hjx : jo ≤ wy.heap.size := Nat.le_trans hjs bt.2.2.2.1
        clear bt hjs
        go_upto_region 9 with (at_builtin; refine add_reading rfl _ _ rfl jo Ls _ rfl OW rfl hlen hjx ?_; intro v' w9 O9 hg9 hn9)
        have HO9 : Hid (w9.ownsRow jo 40 3 v' (Ls ++ [(X, D, C)]).length (grow (Ls ++ [(X, D, C)]))) := O9
        have B9 := B.trans ((grown_belowK OW hg9 hjx).mono hjb)
        have K9 := K'.kept hg9 (fun e => by have := (World.ownsRow.lt OW _ e.symm).1; omega)
        have R9 := R.kept hg9 (fun e => by have := (World.ownsRow.lt OW _ e.symm).1; omega)
        have hj9 : jo ≤ w9.heap.size := Nat.le_trans hjx hg9.size
        clear O9 OW hg9 hn9 B K' R hjx
        go_wp2_with fail
        go_roundw
        case rel => exact ⟨k + 1, H', T', HLT.out, by go_num, G2.out, K9, R9, by rw [G1.out]; exact HO9.out, hj9, B9⟩
        case measure => have hlt' := HLT.out; simp [intOf]; omega
      · have hkn : k = n := by omega
        subst hkn
        have hli : ¬ (k : Int) < (k : Int) := by omega
        generalize wr = v at *
        have OO := own_butK OW (two_butA v jr (.bool H) (.int .i64 T)) hrb
        have RR := (R.set0 (.bool H)).set1 (.int .i64 T)
        have BB := (B.setCell (p := ⟨jr, 0, none⟩) hj (.bool H)).setCell (p := ⟨jr, 1, none⟩) hj (.int .i64 T)
        obtain ⟨n0, n1, n2, n3, n4, n5, n6⟩ := id K
        obtain ⟨r0, r1, r2, r3, r4⟩ := id R
        go_upto_region 10 with fail
        refine wp_region_held_drew (S := (fun w' => w'.cell? ⟨jc, 0, none⟩ = some (.bool H) ∧ w'.cell? ⟨jc, 1, none⟩ = some (.int .i64 T))) (by kernel_rfl) ?_ (fun hHeld => ?_)
        · first | exact ⟨n1, n2⟩ | exact ⟨keepC (keepC n1 dcr) dcr, keepC (keepC n2 dcr) dcr⟩
        refine wpAnyH_take (i := 0) (v := ?_) (by rw [List.getElem?_toArray]; rfl) (by kernel_rfl) (by kernel_rfl) (by kernel_rfl) (by intro _ _ _ h; exact h) (Or.inl ⟨by rfl, ?_⟩) (by assumption) ?_
        rotate_left
        · (intro w hSw; (try dsimp only at hSw); go_simp; all_goals with_reducible rfl)
        (try simp only [Act.put, List.setIfInBounds_toArray, List.set_cons_zero, List.set_cons_succ])
        refine wpAnyH_take (i := 1) (v := ?_) (by rw [List.getElem?_toArray]; rfl) (by kernel_rfl) (by kernel_rfl) (by kernel_rfl) (by intro _ _ _ h; exact h) (Or.inl ⟨by rfl, ?_⟩) (by assumption) ?_
        rotate_left
        · (intro w hSw; (try dsimp only at hSw); go_simp; all_goals with_reducible rfl)
        (try simp only [Act.put, List.setIfInBounds_toArray, List.set_cons_zero, List.set_cons_succ])
        refine wpAnyH_take (i := 2) (v := ?_) (by rw [List.getElem?_toArray]; rfl) (by kernel_rfl) (by kernel_rfl) (by kernel_rfl) (by intro _ _ _ h; exact h) (Or.inl ⟨by rfl, ?_⟩) (by assumption) ?_
        rotate_left
        · (intro w hSw; (try dsimp only at hSw); go_simp; all_goals with_reducible rfl)
        (try simp only [Act.put, List.setIfInBounds_toArray, List.set_cons_zero, List.set_cons_succ])
        refine wpAnyH_take (i := 3) (v := ?_) (by rw [List.getElem?_toArray]; rfl) (by kernel_rfl) (by kernel_rfl) (by kernel_rfl) (by intro _ _ _ h; exact h) (Or.inl ⟨by rfl, ?_⟩) (by assumption) ?_
        rotate_left
        · (intro w hSw; (try dsimp only at hSw); go_simp; all_goals with_reducible rfl)
        (try simp only [Act.put, List.setIfInBounds_toArray, List.set_cons_zero, List.set_cons_succ])
        refine wpAnyH_ready (rs := [4]) (by kernel_rfl) (by simp) ?_
        refine AllReadyH.cons (by rw [List.getElem?_toArray]; rfl) (fun K hK => ?_) AllReadyH.nil
        go_simp
        refine hK.out _ _ ?_ (fun hHeld => ?_)
        · first | exact ⟨n1, n2⟩ | exact ⟨keepC (keepC n1 dcr) dcr, keepC (keepC n2 dcr) dcr⟩
        clear hK K
        (try simp only [Act.put, List.setIfInBounds_toArray, List.set_cons_zero, List.set_cons_succ])
        refine wpAnyH_done (by kernel_rfl) ?_ _
        go_wp2_with fail
        clear r0 r1 r2 r3 r4
        clear n0 n1 n2 n3 n4 n5 n6
        generalize (v.setCell ⟨jr, 0, none⟩ (.bool H)).setCell ⟨jr, 1, none⟩ (.int .i64 T) = vz at *
        obtain ⟨r0, r1, r2, r3, r4⟩ := id RR
        exact bodyPost_ret (v := (.tuple #[u7, .agg #[.bool H, .int .i64 T]])) (by simp (maxDischargeDepth := 6) [results, Try.results13, go_sem, *]) rfl ⟨u7, by first | rfl | rw [hS], own_baseG OO hjb, Below.drew BB⟩end Go.Proofs.Ytdllkfllnljaaaa
