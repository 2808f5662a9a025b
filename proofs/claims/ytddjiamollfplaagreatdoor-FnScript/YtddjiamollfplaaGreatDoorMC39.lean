/- An op drawn for four nodes that know nothing. -/
import Derived.Test.YtddjiamollfplaaGreatDoorMC0
import Derived.Test.YtddjiamollfplaaGreatDoorMC38
namespace Go.Proofs.YtddjiamollfplaaGreatDoor
open Go.RowKit
set_option linter.unusedVariables false

attribute [-go_sem] loadCells storeCells in
set_option maxRecDepth 100000 in
set_option maxHeartbeats 16000000 in
theorem am (B p lb nb : Nat) (w : World) (hcur : aq w B p) (hF : dP w p lb nb) :
 Calls Tryz.prog 51 #[.pointer (some ⟨p, 0, none⟩), .agg #[.int .i64 0, .int .i64 0, .int .i64 0, .int .i64 0, .int .i64 0, .int .i64 0, .int .i64 0, .int .i64 0, .int .i64 0, .int .i64 0, .slice none 0 0, .slice (some ⟨lb, 0, none⟩) 4 4, .int .i64 0, .slice none 0 0, .slice (some ⟨nb, 0, none⟩) 4 4, .int .i64 0, .slice none 0 0, .slice none 0 0]] w (eU w.heap.size B p 5 none w) := by
 have A1 := Below.nw w (.cells #[.int .i64 0, .int .i64 0, .int .i64 0, .int .i64 0, .int .i64 0, .int .i64 0, .int .i64 0, .int .i64 0, .int .i64 0, .int .i64 0, .slice none 0 0, .slice (some ⟨lb, 0, none⟩) 4 4, .int .i64 0, .slice none 0 0, .slice (some ⟨nb, 0, none⟩) 4 4, .int .i64 0, .slice none 0 0, .slice none 0 0] 103)
 have QW := Bo.new w #[.int .i64 0, .int .i64 0, .int .i64 0, .int .i64 0, .int .i64 0, .int .i64 0, .int .i64 0, .int .i64 0, .int .i64 0, .int .i64 0, .slice none 0 0, .slice (some ⟨lb, 0, none⟩) 4 4, .int .i64 0, .slice none 0 0, .slice (some ⟨nb, 0, none⟩) 4 4, .int .i64 0, .slice none 0 0, .slice none 0 0] 103
 have hwb : (w.alloc (.cells #[.int .i64 0, .int .i64 0, .int .i64 0, .int .i64 0, .int .i64 0, .int .i64 0, .int .i64 0, .int .i64 0, .int .i64 0, .int .i64 0, .slice none 0 0, .slice (some ⟨lb, 0, none⟩) 4 4, .int .i64 0, .slice none 0 0, .slice (some ⟨nb, 0, none⟩) 4 4, .int .i64 0, .slice none 0 0, .slice none 0 0] 103)).heap.size = w.heap.size + 1 := by simp
 have A2 := Below.nw (w.alloc (.cells #[.int .i64 0, .int .i64 0, .int .i64 0, .int .i64 0, .int .i64 0, .int .i64 0, .int .i64 0, .int .i64 0, .int .i64 0, .int .i64 0, .slice none 0 0, .slice (some ⟨lb, 0, none⟩) 4 4, .int .i64 0, .slice none 0 0, .slice (some ⟨nb, 0, none⟩) 4 4, .int .i64 0, .slice none 0 0, .slice none 0 0] 103)) (.cells #[.int .i64 0, .int .i64 0, .int .i64 0, .int .i64 0, .int .i64 0, .string ⟨#[]⟩, .slice none 0 0] 26)
 have R := Bo.new (w.alloc (.cells #[.int .i64 0, .int .i64 0, .int .i64 0, .int .i64 0, .int .i64 0, .int .i64 0, .int .i64 0, .int .i64 0, .int .i64 0, .int .i64 0, .slice none 0 0, .slice (some ⟨lb, 0, none⟩) 4 4, .int .i64 0, .slice none 0 0, .slice (some ⟨nb, 0, none⟩) 4 4, .int .i64 0, .slice none 0 0, .slice none 0 0] 103)) #[.int .i64 0, .int .i64 0, .int .i64 0, .int .i64 0, .int .i64 0, .string ⟨#[]⟩, .slice none 0 0] 26
 rw [hwb] at R
 have hpB := hcur.lt
 have T : DrS w.heap.size B p w.heap.size (w.heap.size + 1) none w ((w.alloc (.cells #[.int .i64 0, .int .i64 0, .int .i64 0, .int .i64 0, .int .i64 0, .int .i64 0, .int .i64 0, .int .i64 0, .int .i64 0, .int .i64 0, .slice none 0 0, .slice (some ⟨lb, 0, none⟩) 4 4, .int .i64 0, .slice none 0 0, .slice (some ⟨nb, 0, none⟩) 4 4, .int .i64 0, .slice none 0 0, .slice none 0 0] 103)).alloc (.cells #[.int .i64 0, .int .i64 0, .int .i64 0, .int .i64 0, .int .i64 0, .string ⟨#[]⟩, .slice none 0 0] 26)) #[.int .i64 0, .int .i64 0, .int .i64 0, .int .i64 0, .int .i64 0, .int .i64 0, .int .i64 0, .int .i64 0, .int .i64 0, .int .i64 0, .slice none 0 0, .slice (some ⟨lb, 0, none⟩) 4 4, .int .i64 0, .slice none 0 0, .slice (some ⟨nb, 0, none⟩) 4 4, .int .i64 0, .slice none 0 0, .slice none 0 0] #[.int .i64 0, .int .i64 0, .int .i64 0, .int .i64 0, .int .i64 0, .string ⟨#[]⟩, .slice none 0 0] (.slice none 0 0) [] := ⟨QW.below A2, R, World.ownsRow_nil _ _ _ _, (hcur.below A1).below A2, (au A1 (Nat.le_refl _)).trans (au A2 (by omega)), ⟨fun q hq => by simp [Value.ownBlock] at hq, fun k hk hp _ => (A2.block k (by omega)).trans (A1.block k hk), fun q hq => by simp [Value.ownBlock] at hq, Nat.le_refl _, by omega, by simp; omega⟩, Nat.le_refl _, by omega, by omega, hpB.1, hpB.2, by simp; omega⟩
 have HX : Hid (∀ v, aW w.heap.size p w v → dP v p lb nb) := fun v hv => hF.bel hv
 clear A1 A2 hcur hwb hF QW R
 obtain ⟨i0, hi, hz0, hz1, hz2⟩ := info_parts dv
 go_enter Tryz.func51, Tryz.ntmps51
 go_upto_region 1 with fail
 generalize (w.alloc (.cells #[.int .i64 0, .int .i64 0, .int .i64 0, .int .i64 0, .int .i64 0, .int .i64 0, .int .i64 0, .int .i64 0, .int .i64 0, .int .i64 0, .slice none 0 0, .slice (some ⟨lb, 0, none⟩) 4 4, .int .i64 0, .slice none 0 0, .slice (some ⟨nb, 0, none⟩) 4 4, .int .i64 0, .slice none 0 0, .slice none 0 0] 103)).alloc (.cells #[.int .i64 0, .int .i64 0, .int .i64 0, .int .i64 0, .int .i64 0, .string ⟨#[]⟩, .slice none 0 0] 26) = v1 at *
 have c14 : v1.cell? ⟨w.heap.size, 14, none⟩ = some (.slice (some ⟨nb, 0, none⟩) 4 4) := T.1.cell (i := 14) rfl
 have CM := cW 4 1 v1
 rw [show imx 4 1 = 4 from by decide] at CM
 go_wp2_with fail
 refine CM.mono ?_
 rintro e v1' ⟨rfl, rfl⟩
 clear CM c14
 go_wp2_with fail
 refine (af B p 4 v1 T.2.2.2.1).mono ?_
 rintro e v2 ⟨x, rfl, x0, -, xp, -, cc, bb⟩
 have xq := xp (by decide)
 replace T := T.call cc bb
 clear xp cc bb

 have CM := cW 3 1 v2
 rw [show imx 3 1 = 3 from by decide] at CM
 go_wp2_with fail
 refine CM.mono ?_
 rintro e v2' ⟨rfl, rfl⟩
 clear CM
 go_wp2_with fail
 refine (af B p 3 v2 T.2.2.2.1).mono ?_
 rintro e v3 ⟨z, rfl, z0, -, zp, -, cc, bb⟩
 have zq := zp (by decide)
 replace T := T.call cc bb
 clear zp cc bb

 obtain ⟨tq, htq, tq0, tq8⟩ : ∃ q, (x + 1 + z).tmod 8 = q ∧ 0 ≤ q ∧ q < 8 := ⟨_, rfl, by rw [Int.tmod_eq_emod_of_nonneg (by omega)]; omega, by rw [Int.tmod_eq_emod_of_nonneg (by omega)]; omega⟩
 obtain ⟨rn, hrq, hrn4⟩ : ∃ rn : Nat, tq.tmod 4 = (rn : Int) ∧ rn < 4 := ⟨(tq.tmod 4).toNat, by rw [Int.tmod_eq_emod_of_nonneg tq0]; omega, by rw [Int.tmod_eq_emod_of_nonneg tq0]; omega⟩
 have c16 : v3.cell? ⟨w.heap.size, 16, none⟩ = some (.slice none 0 0) := T.1.cell (i := 16) rfl
 have CM := cW 0 1 v3
 rw [show imx 0 1 = 1 from by decide] at CM
 go_wp2_with fail
 refine CM.mono ?_
 rintro e v3' ⟨rfl, rfl⟩
 clear CM c16 htq
 go_wp2_with fail
 refine (af B p 24 v3 T.2.2.2.1).mono ?_
 rintro e v5 ⟨y, rfl, y0, -, yp, -, cc, bb⟩
 have yq := yp (by decide)
 replace T := T.call cc bb
 clear yp cc bb

 rcases (show y = 0 ∨ y = 1 ∨ y = 2 ∨ y = 3 ∨ y = 4 ∨ y = 5 ∨ y = 6 ∨ y = 7 ∨ y = 8 ∨ y = 9 ∨ y = 10 ∨ y = 11 ∨ y = 12 ∨ y = 13 ∨ y = 14 ∨ y = 15 ∨ y = 16 ∨ y = 17 ∨ y = 18 ∨ y = 19 ∨ y = 20 ∨ y = 21 ∨ y = 22 ∨ y = 23 by omega) with rfl | rfl | rfl | rfl | rfl | rfl | rfl | rfl | rfl | rfl | rfl | rfl | rfl | rfl | rfl | rfl | rfl | rfl | rfl | rfl | rfl | rfl | rfl | rfl
 ·go_wp2_with fail
  refine (af B p 25 v5 T.2.2.2.1).mono ?_
  rintro e va ⟨f, rfl, f0, -, fp, -, cc, bb⟩
  have fq := fp (by decide)
  replace T := T.call cc bb
  clear fp cc bb
  have Q := Bo.new va #[.int .i64 0, .int .i64 0, .int .i64 0, .int .i64 0, .int .i64 0, .string ⟨#[]⟩, .slice none 0 0] 26
  have hst : (storeCells ⟨va.heap.size, 0, none⟩ [.int .i64 1, .int .i64 0, .int .i64 0, .int .i64 f, .int .i64 0, .string ⟨#[]⟩, .slice none 0 0] 0).run Tryz.prog (va.alloc (.cells #[.int .i64 0, .int .i64 0, .int .i64 0, .int .i64 0, .int .i64 0, .string ⟨#[]⟩, .slice none 0 0] 26)) = .ok () (ac (va.alloc (.cells #[.int .i64 0, .int .i64 0, .int .i64 0, .int .i64 0, .int .i64 0, .string ⟨#[]⟩, .slice none 0 0] 26)) va.heap.size 0 [.int .i64 1, .int .i64 0, .int .i64 0, .int .i64 f, .int .i64 0, .string ⟨#[]⟩, .slice none 0 0]) := Bo.store (P := Tryz.prog) (b := 0) [.int .i64 1, .int .i64 0, .int .i64 0, .int .i64 f, .int .i64 0, .string ⟨#[]⟩, .slice none 0 0] 0 0 Q rfl (by simp) (by intro u hu; simp only [List.mem_cons, List.not_mem_nil, or_false] at hu; rcases hu with h | h | h | h | h | h | h <;> (subst h; rfl))
  replace Q : Bo (ac (va.alloc (.cells #[.int .i64 0, .int .i64 0, .int .i64 0, .int .i64 0, .int .i64 0, .string ⟨#[]⟩, .slice none 0 0] 26)) va.heap.size 0 [.int .i64 1, .int .i64 0, .int .i64 0, .int .i64 f, .int .i64 0, .string ⟨#[]⟩, .slice none 0 0]) va.heap.size #[.int .i64 1, .int .i64 0, .int .i64 0, .int .i64 f, .int .i64 0, .string ⟨#[]⟩, .slice none 0 0] := Q.putW (U := #[.int .i64 1, .int .i64 0, .int .i64 0, .int .i64 f, .int .i64 0, .string ⟨#[]⟩, .slice none 0 0]) rfl
  have hb := ai (k := va.heap.size) [.int .i64 1, .int .i64 0, .int .i64 0, .int .i64 f, .int .i64 0, .string ⟨#[]⟩, .slice none 0 0] va _ 0 (Below.nw va (.cells #[.int .i64 0, .int .i64 0, .int .i64 0, .int .i64 0, .int .i64 0, .string ⟨#[]⟩, .slice none 0 0] 26)) (Nat.le_refl _)
  have hwa : w.heap.size + 1 < va.heap.size := T.2.1.1
  have T2 : DrS w.heap.size B p va.heap.size (w.heap.size + 1) none w (ac (va.alloc (.cells #[.int .i64 0, .int .i64 0, .int .i64 0, .int .i64 0, .int .i64 0, .string ⟨#[]⟩, .slice none 0 0] 26)) va.heap.size 0 [.int .i64 1, .int .i64 0, .int .i64 0, .int .i64 f, .int .i64 0, .string ⟨#[]⟩, .slice none 0 0]) #[.int .i64 1, .int .i64 0, .int .i64 0, .int .i64 f, .int .i64 0, .string ⟨#[]⟩, .slice none 0 0] #[.int .i64 0, .int .i64 0, .int .i64 0, .int .i64 0, .int .i64 0, .string ⟨#[]⟩, .slice none 0 0] (.slice none 0 0) [] := ⟨Q, T.2.1.below hb, World.ownsRow_nil _ _ _ _, T.2.2.2.1.below hb, T.2.2.2.2.1.trans (au hb (by omega)), ⟨fun q hq => by simp [Value.ownBlock] at hq, fun k hk hp ho => (hb.block k (by omega)).trans (T.2.2.2.2.2.1.2.1 k hk hp ho), fun q hq => by simp [Value.ownBlock] at hq, by omega, by omega, Nat.le_trans (by omega) hb.size⟩, by omega, by omega, by omega, hpB.1, hpB.2, Nat.le_trans (by omega) hb.size⟩
  clear Q hb T
  have T := T2
  clear T2
  go_upto_region 11 with (rw [hst])
  clear hst hwa
  generalize ac (va.alloc (.cells #[.int .i64 0, .int .i64 0, .int .i64 0, .int .i64 0, .int .i64 0, .string ⟨#[]⟩, .slice none 0 0] 26)) va.heap.size 0 [.int .i64 1, .int .i64 0, .int .i64 0, .int .i64 f, .int .i64 0, .string ⟨#[]⟩, .slice none 0 0] = vb at *
  generalize va.heap.size = ob at *
  go_wp2_with fail
  go_loopw [10] (fun i wr => ∃ (P : Option Addr) (L : List Int) (c : Nat), i = .int .i64 (L.length : Int) ∧ L.length ≤ 5 ∧ DrS w.heap.size B p ob (w.heap.size + 1) none w wr #[.int .i64 1, .int .i64 0, .int .i64 0, .int .i64 f, .int .i64 0, .string ⟨#[]⟩, .slice P L.length c] #[.int .i64 0, .int .i64 0, .int .i64 0, .int .i64 0, .int .i64 0, .string ⟨#[]⟩, .slice none 0 0] (.slice P L.length c) L) (fun i _ => 5 - (intOf i).toNat)
  case atStart => exact ⟨none, [], 0, rfl, by decide, T⟩
  case round =>
   clear T
   obtain ⟨P, L, c, rfl, hL5, T⟩ := hrel
   go_wp2_with fail
   refine (af B p 6 wr T.2.2.2.1).mono ?_
   rintro e v6 ⟨z6, rfl, z60, -, z6p, -, cc, bb⟩
   have z6q := z6p (by decide)
   replace T := T.call cc bb
   clear z6p cc bb
   by_cases hlz : (L.length : Int) < z6
   ·go_upto_region 13 with fail
    refine wp_region_held_drew (S := (fun _ => True)) (by kernel_rfl) ?_ (fun hHeld => ?_)
    ·trivial
    replace T := T.drew
    generalize v6.drew = vx at *
    have q6 := T.1.cell (i := 6) rfl
    refine zTk 0 ?_
    refine zTk 2 ?_
    refine wpAnyH_ready (rs := [1, 3]) (by kernel_rfl) (by simp) ?_
    refine (zC (fun K hK => ?_) (zR fun K hK => ?_))
    ·go_simp
     refine hK.out _ _ ?_ (fun hHeld => ?_)
     ·trivial
     clear hK K
     (try simp only [zA])
     refine zQ 3 fun K hK => ?_
     go_simp
     (clear q6); refine (af B p 9 vx T.2.2.2.1).mono ?_; rintro e vx3 ⟨y9, rfl, y90, -, y9p, -, cc, bb⟩; (have y9q := y9p (by decide)); (replace T := T.call cc bb); (clear y9p cc bb); (have q6 := T.1.cell (i := 6) rfl)
     (try go_wp2_with fail)
     refine hK.out _ _ ?_ (fun hHeld => ?_)
     ·trivial
     clear hK K
     (try simp only [zA])
     refine zTk 4 ?_
     refine zQ 5 fun K hK => ?_
     go_simp
     (clear q6); (generalize IntKind.i64.wrap (y9 - 4) = y4 at *); (have A6 := Below.nw vx3 (.cells #[.int .i64 y4] 3)); (have HN : Hid (∀ j u, [Value.int .i64 y4][j]? = some u → (vx3.alloc (.cells #[.int .i64 y4] 3)).cell? ((⟨vx3.heap.size, 0, none⟩ : Addr).add j) = some u) := bR vx3 y4 3); (replace T := T.below A6); (clear A6); (generalize vx3.alloc (.cells #[.int .i64 y4] 3) = vx5 at *); (generalize vx3.heap.size = jb at *); (have q6 := T.1.cell (i := 6) rfl)
     refine hK.out _ _ ?_ (fun hHeld => ?_)
     ·trivial
     clear hK K
     (try simp only [zA])
     refine zQ 6 fun K hK => ?_
     rw [if_pos (by rfl)]; (clear q6); refine aH _ _ 24 rfl w.heap.size 3 i0 (.int .i64 0) 1 8 Tryz.underlying24 hi hz0 hz1 hz2 rfl (by decide) _ _ _ rfl T.2.2.1 ⟨jb, 0, none⟩ 1 1 [.int .i64 y4] rfl rfl HN.out (by intro u hu; simp at hu; subst hu; rfl) (by unfold maxLen; omega) (by omega) T.2.2.2.2.2.2.2.2.2.2.2 ?_; intro v' wn hown' hgrow hfr; (obtain ⟨P', c', rfl⟩ := bT hown'); (have R9 : wn.ownsRow w.heap.size 3 1 (.slice P' (L.length + 1) c') (L ++ [y4]).length (aG (L ++ [y4])) := by rw [bd, List.length_append]; exact hown'); (have T9 := T.grow hgrow R9 hfr); (clear hown' hgrow hfr HN T R9); (have T := T9); (clear T9); (have g0 := T.1.1); (have q6 := T.1.cell (i := 6) rfl); (have f6 := T.1.2.2 6 (by simp)); (have hst6 := aw (P := Tryz.prog) (v := .slice P' (L.length + 1) c') q6 f6 rfl); (have T5 := T.set 6 (.slice P' (L.length + 1) c')); (have HT5 : Hid _ := T5); (clear T T5 q6 f6 g0)
     refine hK.out _ _ ?_ (fun hHeld => ?_)
     ·trivial
     clear hK K
     (try simp only [zA])
     refine zTk 7 ?_
     refine zQ 8 fun K hK => ?_
     go_simp
     (try rw [hst6]); (try go_simp)
     refine hK.out _ _ ?_ (fun hHeld => ?_)
     ·trivial
     clear hK K
     (try simp only [zA])
     refine wpAnyH_done (by kernel_rfl) ?_ _
     clear hst6
     have T : DrS w.heap.size B p ob (w.heap.size + 1) none w (wn.setCell ⟨ob, 6, none⟩ (.slice P' (L.length + 1) c')) #[.int .i64 1, .int .i64 0, .int .i64 0, .int .i64 f, .int .i64 0, .string ⟨#[]⟩, .slice P' (L ++ [y4]).length c'] #[.int .i64 0, .int .i64 0, .int .i64 0, .int .i64 0, .int .i64 0, .string ⟨#[]⟩, .slice none 0 0] (.slice P' (L ++ [y4]).length c') (L ++ [y4]) := by (rw [show (L ++ [y4]).length = L.length + 1 by rw [List.length_append]; rfl]; exact HT5.out)
     clear HT5
     generalize wn.setCell ⟨ob, 6, none⟩ (.slice P' (L.length + 1) c') = v9 at *
     go_wp2_with fail
     go_roundw
     case rel => exact ⟨P', L ++ [y4], c', by (rw [List.length_append]; try go_num), by (rw [List.length_append]; show L.length + 1 ≤ 5; omega), T⟩
     case measure => simp [intOf]; omega
    ·go_simp
     (clear q6); refine (af B p 9 vx T.2.2.2.1).mono ?_; rintro e vx3 ⟨y9, rfl, y90, -, y9p, -, cc, bb⟩; (have y9q := y9p (by decide)); (replace T := T.call cc bb); (clear y9p cc bb); (have q6 := T.1.cell (i := 6) rfl)
     (try go_wp2_with fail)
     refine hK.out _ _ ?_ (fun hHeld => ?_)
     ·trivial
     clear hK K
     (try simp only [zA])
     refine zTk 4 ?_
     refine wpAnyH_ready (rs := [1, 5]) (by kernel_rfl) (by simp) ?_
     refine (zC (fun K hK => ?_) (zR fun K hK => ?_))
     ·go_simp
      refine hK.out _ _ ?_ (fun hHeld => ?_)
      ·trivial
      clear hK K
      (try simp only [zA])
      refine zQ 5 fun K hK => ?_
      go_simp
      (clear q6); (generalize IntKind.i64.wrap (y9 - 4) = y4 at *); (have A6 := Below.nw vx3 (.cells #[.int .i64 y4] 3)); (have HN : Hid (∀ j u, [Value.int .i64 y4][j]? = some u → (vx3.alloc (.cells #[.int .i64 y4] 3)).cell? ((⟨vx3.heap.size, 0, none⟩ : Addr).add j) = some u) := bR vx3 y4 3); (replace T := T.below A6); (clear A6); (generalize vx3.alloc (.cells #[.int .i64 y4] 3) = vx5 at *); (generalize vx3.heap.size = jb at *); (have q6 := T.1.cell (i := 6) rfl)
      refine hK.out _ _ ?_ (fun hHeld => ?_)
      ·trivial
      clear hK K
      (try simp only [zA])
      refine zQ 6 fun K hK => ?_
      rw [if_pos (by rfl)]; (clear q6); refine aH _ _ 24 rfl w.heap.size 3 i0 (.int .i64 0) 1 8 Tryz.underlying24 hi hz0 hz1 hz2 rfl (by decide) _ _ _ rfl T.2.2.1 ⟨jb, 0, none⟩ 1 1 [.int .i64 y4] rfl rfl HN.out (by intro u hu; simp at hu; subst hu; rfl) (by unfold maxLen; omega) (by omega) T.2.2.2.2.2.2.2.2.2.2.2 ?_; intro v' wn hown' hgrow hfr; (obtain ⟨P', c', rfl⟩ := bT hown'); (have R9 : wn.ownsRow w.heap.size 3 1 (.slice P' (L.length + 1) c') (L ++ [y4]).length (aG (L ++ [y4])) := by rw [bd, List.length_append]; exact hown'); (have T9 := T.grow hgrow R9 hfr); (clear hown' hgrow hfr HN T R9); (have T := T9); (clear T9); (have g0 := T.1.1); (have q6 := T.1.cell (i := 6) rfl); (have f6 := T.1.2.2 6 (by simp)); (have hst6 := aw (P := Tryz.prog) (v := .slice P' (L.length + 1) c') q6 f6 rfl); (have T5 := T.set 6 (.slice P' (L.length + 1) c')); (have HT5 : Hid _ := T5); (clear T T5 q6 f6 g0)
      refine hK.out _ _ ?_ (fun hHeld => ?_)
      ·trivial
      clear hK K
      (try simp only [zA])
      refine zTk 7 ?_
      refine zQ 8 fun K hK => ?_
      go_simp
      (try rw [hst6]); (try go_simp)
      refine hK.out _ _ ?_ (fun hHeld => ?_)
      ·trivial
      clear hK K
      (try simp only [zA])
      refine wpAnyH_done (by kernel_rfl) ?_ _
      clear hst6
      have T : DrS w.heap.size B p ob (w.heap.size + 1) none w (wn.setCell ⟨ob, 6, none⟩ (.slice P' (L.length + 1) c')) #[.int .i64 1, .int .i64 0, .int .i64 0, .int .i64 f, .int .i64 0, .string ⟨#[]⟩, .slice P' (L ++ [y4]).length c'] #[.int .i64 0, .int .i64 0, .int .i64 0, .int .i64 0, .int .i64 0, .string ⟨#[]⟩, .slice none 0 0] (.slice P' (L ++ [y4]).length c') (L ++ [y4]) := by (rw [show (L ++ [y4]).length = L.length + 1 by rw [List.length_append]; rfl]; exact HT5.out)
      clear HT5
      generalize wn.setCell ⟨ob, 6, none⟩ (.slice P' (L.length + 1) c') = v9 at *
      go_wp2_with fail
      go_roundw
      case rel => exact ⟨P', L ++ [y4], c', by (rw [List.length_append]; try go_num), by (rw [List.length_append]; show L.length + 1 ≤ 5; omega), T⟩
      case measure => simp [intOf]; omega
     ·go_simp
      (clear q6); (generalize IntKind.i64.wrap (y9 - 4) = y4 at *); (have A6 := Below.nw vx3 (.cells #[.int .i64 y4] 3)); (have HN : Hid (∀ j u, [Value.int .i64 y4][j]? = some u → (vx3.alloc (.cells #[.int .i64 y4] 3)).cell? ((⟨vx3.heap.size, 0, none⟩ : Addr).add j) = some u) := bR vx3 y4 3); (replace T := T.below A6); (clear A6); (generalize vx3.alloc (.cells #[.int .i64 y4] 3) = vx5 at *); (generalize vx3.heap.size = jb at *); (have q6 := T.1.cell (i := 6) rfl)
      refine hK.out _ _ ?_ (fun hHeld => ?_)
      ·trivial
      clear hK K
      (try simp only [zA])
      refine zQ 1 fun K hK => ?_
      go_simp
      refine hK.out _ _ ?_ (fun hHeld => ?_)
      ·trivial
      clear hK K
      (try simp only [zA])
      refine zQ 6 fun K hK => ?_
      rw [if_pos (by rfl)]; (clear q6); refine aH _ _ 24 rfl w.heap.size 3 i0 (.int .i64 0) 1 8 Tryz.underlying24 hi hz0 hz1 hz2 rfl (by decide) _ _ _ rfl T.2.2.1 ⟨jb, 0, none⟩ 1 1 [.int .i64 y4] rfl rfl HN.out (by intro u hu; simp at hu; subst hu; rfl) (by unfold maxLen; omega) (by omega) T.2.2.2.2.2.2.2.2.2.2.2 ?_; intro v' wn hown' hgrow hfr; (obtain ⟨P', c', rfl⟩ := bT hown'); (have R9 : wn.ownsRow w.heap.size 3 1 (.slice P' (L.length + 1) c') (L ++ [y4]).length (aG (L ++ [y4])) := by rw [bd, List.length_append]; exact hown'); (have T9 := T.grow hgrow R9 hfr); (clear hown' hgrow hfr HN T R9); (have T := T9); (clear T9); (have g0 := T.1.1); (have q6 := T.1.cell (i := 6) rfl); (have f6 := T.1.2.2 6 (by simp)); (have hst6 := aw (P := Tryz.prog) (v := .slice P' (L.length + 1) c') q6 f6 rfl); (have T5 := T.set 6 (.slice P' (L.length + 1) c')); (have HT5 : Hid _ := T5); (clear T T5 q6 f6 g0)
      refine hK.out _ _ ?_ (fun hHeld => ?_)
      ·trivial
      clear hK K
      (try simp only [zA])
      refine zTk 7 ?_
      refine zQ 8 fun K hK => ?_
      go_simp
      (try rw [hst6]); (try go_simp)
      refine hK.out _ _ ?_ (fun hHeld => ?_)
      ·trivial
      clear hK K
      (try simp only [zA])
      refine wpAnyH_done (by kernel_rfl) ?_ _
      clear hst6
      have T : DrS w.heap.size B p ob (w.heap.size + 1) none w (wn.setCell ⟨ob, 6, none⟩ (.slice P' (L.length + 1) c')) #[.int .i64 1, .int .i64 0, .int .i64 0, .int .i64 f, .int .i64 0, .string ⟨#[]⟩, .slice P' (L ++ [y4]).length c'] #[.int .i64 0, .int .i64 0, .int .i64 0, .int .i64 0, .int .i64 0, .string ⟨#[]⟩, .slice none 0 0] (.slice P' (L ++ [y4]).length c') (L ++ [y4]) := by (rw [show (L ++ [y4]).length = L.length + 1 by rw [List.length_append]; rfl]; exact HT5.out)
      clear HT5
      generalize wn.setCell ⟨ob, 6, none⟩ (.slice P' (L.length + 1) c') = v9 at *
      go_wp2_with fail
      go_roundw
      case rel => exact ⟨P', L ++ [y4], c', by (rw [List.length_append]; try go_num), by (rw [List.length_append]; show L.length + 1 ≤ 5; omega), T⟩
      case measure => simp [intOf]; omega
   ·skip
    (try go_wp2_with fail)
    have hL := T.1.load (P := Tryz.prog) (n := 7) rfl
    have hst := Bo.store (P := Tryz.prog) (b := 0) [.int .i64 1, .int .i64 0, .int .i64 0, .int .i64 f, .int .i64 0, .string ⟨#[]⟩, .slice P L.length c] 0 0 T.2.1 rfl (by simp) (by intro u hu; simp only [List.mem_cons, List.not_mem_nil, or_false] at hu; rcases hu with h | h | h | h | h | h | h <;> (subst h; rfl))
    have RS := T.result [.int .i64 1, .int .i64 0, .int .i64 0, .int .i64 f, .int .i64 0, .string ⟨#[]⟩, .slice P L.length c] rfl
    have HW : Hid (_ ∧ _) := RS
    clear RS T
    go_wp2_with (first | rw [hL] | rw [hst])
    (try go_simp)
    (try go_wp2_with fail)
    clear hL hst
    generalize ac v6 (w.heap.size + 1) 0 [.int .i64 1, .int .i64 0, .int .i64 0, .int .i64 f, .int .i64 0, .string ⟨#[]⟩, .slice P L.length c] = vz at *
    have hL := HW.out.1.load (P := Tryz.prog) (n := 7) rfl
    (try simp only [Exit.inBlock, Exit.then])
    exact bodyPost_ret (v := .agg #[.int .i64 1, .int .i64 0, .int .i64 0, .int .i64 f, .int .i64 0, .string ⟨#[]⟩, .slice P L.length c]) (by simp [results, Tryz.results51, go_sem]; rw [hL]; rfl) rfl (aC 1 0 0 f 0 ⟨#[]⟩ P L c rfl rfl (by decide) hL5 HW.out.2.1 HW.out.2.2.1 HW.out.2.2.2)
 ·go_wp2_with fail
  refine (af B p 25 v5 T.2.2.2.1).mono ?_
  rintro e va ⟨f, rfl, f0, -, fp, -, cc, bb⟩
  have fq := fp (by decide)
  replace T := T.call cc bb
  clear fp cc bb
  have Q := Bo.new va #[.int .i64 0, .int .i64 0, .int .i64 0, .int .i64 0, .int .i64 0, .string ⟨#[]⟩, .slice none 0 0] 26
  have hst : (storeCells ⟨va.heap.size, 0, none⟩ [.int .i64 1, .int .i64 0, .int .i64 0, .int .i64 f, .int .i64 0, .string ⟨#[]⟩, .slice none 0 0] 0).run Tryz.prog (va.alloc (.cells #[.int .i64 0, .int .i64 0, .int .i64 0, .int .i64 0, .int .i64 0, .string ⟨#[]⟩, .slice none 0 0] 26)) = .ok () (ac (va.alloc (.cells #[.int .i64 0, .int .i64 0, .int .i64 0, .int .i64 0, .int .i64 0, .string ⟨#[]⟩, .slice none 0 0] 26)) va.heap.size 0 [.int .i64 1, .int .i64 0, .int .i64 0, .int .i64 f, .int .i64 0, .string ⟨#[]⟩, .slice none 0 0]) := Bo.store (P := Tryz.prog) (b := 0) [.int .i64 1, .int .i64 0, .int .i64 0, .int .i64 f, .int .i64 0, .string ⟨#[]⟩, .slice none 0 0] 0 0 Q rfl (by simp) (by intro u hu; simp only [List.mem_cons, List.not_mem_nil, or_false] at hu; rcases hu with h | h | h | h | h | h | h <;> (subst h; rfl))
  replace Q : Bo (ac (va.alloc (.cells #[.int .i64 0, .int .i64 0, .int .i64 0, .int .i64 0, .int .i64 0, .string ⟨#[]⟩, .slice none 0 0] 26)) va.heap.size 0 [.int .i64 1, .int .i64 0, .int .i64 0, .int .i64 f, .int .i64 0, .string ⟨#[]⟩, .slice none 0 0]) va.heap.size #[.int .i64 1, .int .i64 0, .int .i64 0, .int .i64 f, .int .i64 0, .string ⟨#[]⟩, .slice none 0 0] := Q.putW (U := #[.int .i64 1, .int .i64 0, .int .i64 0, .int .i64 f, .int .i64 0, .string ⟨#[]⟩, .slice none 0 0]) rfl
  have hb := ai (k := va.heap.size) [.int .i64 1, .int .i64 0, .int .i64 0, .int .i64 f, .int .i64 0, .string ⟨#[]⟩, .slice none 0 0] va _ 0 (Below.nw va (.cells #[.int .i64 0, .int .i64 0, .int .i64 0, .int .i64 0, .int .i64 0, .string ⟨#[]⟩, .slice none 0 0] 26)) (Nat.le_refl _)
  have hwa : w.heap.size + 1 < va.heap.size := T.2.1.1
  have T2 : DrS w.heap.size B p va.heap.size (w.heap.size + 1) none w (ac (va.alloc (.cells #[.int .i64 0, .int .i64 0, .int .i64 0, .int .i64 0, .int .i64 0, .string ⟨#[]⟩, .slice none 0 0] 26)) va.heap.size 0 [.int .i64 1, .int .i64 0, .int .i64 0, .int .i64 f, .int .i64 0, .string ⟨#[]⟩, .slice none 0 0]) #[.int .i64 1, .int .i64 0, .int .i64 0, .int .i64 f, .int .i64 0, .string ⟨#[]⟩, .slice none 0 0] #[.int .i64 0, .int .i64 0, .int .i64 0, .int .i64 0, .int .i64 0, .string ⟨#[]⟩, .slice none 0 0] (.slice none 0 0) [] := ⟨Q, T.2.1.below hb, World.ownsRow_nil _ _ _ _, T.2.2.2.1.below hb, T.2.2.2.2.1.trans (au hb (by omega)), ⟨fun q hq => by simp [Value.ownBlock] at hq, fun k hk hp ho => (hb.block k (by omega)).trans (T.2.2.2.2.2.1.2.1 k hk hp ho), fun q hq => by simp [Value.ownBlock] at hq, by omega, by omega, Nat.le_trans (by omega) hb.size⟩, by omega, by omega, by omega, hpB.1, hpB.2, Nat.le_trans (by omega) hb.size⟩
  clear Q hb T
  have T := T2
  clear T2
  go_upto_region 11 with (rw [hst])
  clear hst hwa
  generalize ac (va.alloc (.cells #[.int .i64 0, .int .i64 0, .int .i64 0, .int .i64 0, .int .i64 0, .string ⟨#[]⟩, .slice none 0 0] 26)) va.heap.size 0 [.int .i64 1, .int .i64 0, .int .i64 0, .int .i64 f, .int .i64 0, .string ⟨#[]⟩, .slice none 0 0] = vb at *
  generalize va.heap.size = ob at *
  go_wp2_with fail
  go_loopw [10] (fun i wr => ∃ (P : Option Addr) (L : List Int) (c : Nat), i = .int .i64 (L.length : Int) ∧ L.length ≤ 5 ∧ DrS w.heap.size B p ob (w.heap.size + 1) none w wr #[.int .i64 1, .int .i64 0, .int .i64 0, .int .i64 f, .int .i64 0, .string ⟨#[]⟩, .slice P L.length c] #[.int .i64 0, .int .i64 0, .int .i64 0, .int .i64 0, .int .i64 0, .string ⟨#[]⟩, .slice none 0 0] (.slice P L.length c) L) (fun i _ => 5 - (intOf i).toNat)
  case atStart => exact ⟨none, [], 0, rfl, by decide, T⟩
  case round =>
   clear T
   obtain ⟨P, L, c, rfl, hL5, T⟩ := hrel
   go_wp2_with fail
   refine (af B p 6 wr T.2.2.2.1).mono ?_
   rintro e v6 ⟨z6, rfl, z60, -, z6p, -, cc, bb⟩
   have z6q := z6p (by decide)
   replace T := T.call cc bb
   clear z6p cc bb
   by_cases hlz : (L.length : Int) < z6
   ·go_upto_region 13 with fail
    refine wp_region_held_drew (S := (fun _ => True)) (by kernel_rfl) ?_ (fun hHeld => ?_)
    ·trivial
    replace T := T.drew
    generalize v6.drew = vx at *
    have q6 := T.1.cell (i := 6) rfl
    refine zTk 0 ?_
    refine zTk 2 ?_
    refine wpAnyH_ready (rs := [1, 3]) (by kernel_rfl) (by simp) ?_
    refine (zC (fun K hK => ?_) (zR fun K hK => ?_))
    ·go_simp
     refine hK.out _ _ ?_ (fun hHeld => ?_)
     ·trivial
     clear hK K
     (try simp only [zA])
     refine zQ 3 fun K hK => ?_
     go_simp
     (clear q6); refine (af B p 9 vx T.2.2.2.1).mono ?_; rintro e vx3 ⟨y9, rfl, y90, -, y9p, -, cc, bb⟩; (have y9q := y9p (by decide)); (replace T := T.call cc bb); (clear y9p cc bb); (have q6 := T.1.cell (i := 6) rfl)
     (try go_wp2_with fail)
     refine hK.out _ _ ?_ (fun hHeld => ?_)
     ·trivial
     clear hK K
     (try simp only [zA])
     refine zTk 4 ?_
     refine zQ 5 fun K hK => ?_
     go_simp
     (clear q6); (generalize IntKind.i64.wrap (y9 - 4) = y4 at *); (have A6 := Below.nw vx3 (.cells #[.int .i64 y4] 3)); (have HN : Hid (∀ j u, [Value.int .i64 y4][j]? = some u → (vx3.alloc (.cells #[.int .i64 y4] 3)).cell? ((⟨vx3.heap.size, 0, none⟩ : Addr).add j) = some u) := bR vx3 y4 3); (replace T := T.below A6); (clear A6); (generalize vx3.alloc (.cells #[.int .i64 y4] 3) = vx5 at *); (generalize vx3.heap.size = jb at *); (have q6 := T.1.cell (i := 6) rfl)
     refine hK.out _ _ ?_ (fun hHeld => ?_)
     ·trivial
     clear hK K
     (try simp only [zA])
     refine zQ 6 fun K hK => ?_
     rw [if_pos (by rfl)]; (clear q6); refine aH _ _ 24 rfl w.heap.size 3 i0 (.int .i64 0) 1 8 Tryz.underlying24 hi hz0 hz1 hz2 rfl (by decide) _ _ _ rfl T.2.2.1 ⟨jb, 0, none⟩ 1 1 [.int .i64 y4] rfl rfl HN.out (by intro u hu; simp at hu; subst hu; rfl) (by unfold maxLen; omega) (by omega) T.2.2.2.2.2.2.2.2.2.2.2 ?_; intro v' wn hown' hgrow hfr; (obtain ⟨P', c', rfl⟩ := bT hown'); (have R9 : wn.ownsRow w.heap.size 3 1 (.slice P' (L.length + 1) c') (L ++ [y4]).length (aG (L ++ [y4])) := by rw [bd, List.length_append]; exact hown'); (have T9 := T.grow hgrow R9 hfr); (clear hown' hgrow hfr HN T R9); (have T := T9); (clear T9); (have g0 := T.1.1); (have q6 := T.1.cell (i := 6) rfl); (have f6 := T.1.2.2 6 (by simp)); (have hst6 := aw (P := Tryz.prog) (v := .slice P' (L.length + 1) c') q6 f6 rfl); (have T5 := T.set 6 (.slice P' (L.length + 1) c')); (have HT5 : Hid _ := T5); (clear T T5 q6 f6 g0)
     refine hK.out _ _ ?_ (fun hHeld => ?_)
     ·trivial
     clear hK K
     (try simp only [zA])
     refine zTk 7 ?_
     refine zQ 8 fun K hK => ?_
     go_simp
     (try rw [hst6]); (try go_simp)
     refine hK.out _ _ ?_ (fun hHeld => ?_)
     ·trivial
     clear hK K
     (try simp only [zA])
     refine wpAnyH_done (by kernel_rfl) ?_ _
     clear hst6
     have T : DrS w.heap.size B p ob (w.heap.size + 1) none w (wn.setCell ⟨ob, 6, none⟩ (.slice P' (L.length + 1) c')) #[.int .i64 1, .int .i64 0, .int .i64 0, .int .i64 f, .int .i64 0, .string ⟨#[]⟩, .slice P' (L ++ [y4]).length c'] #[.int .i64 0, .int .i64 0, .int .i64 0, .int .i64 0, .int .i64 0, .string ⟨#[]⟩, .slice none 0 0] (.slice P' (L ++ [y4]).length c') (L ++ [y4]) := by (rw [show (L ++ [y4]).length = L.length + 1 by rw [List.length_append]; rfl]; exact HT5.out)
     clear HT5
     generalize wn.setCell ⟨ob, 6, none⟩ (.slice P' (L.length + 1) c') = v9 at *
     go_wp2_with fail
     go_roundw
     case rel => exact ⟨P', L ++ [y4], c', by (rw [List.length_append]; try go_num), by (rw [List.length_append]; show L.length + 1 ≤ 5; omega), T⟩
     case measure => simp [intOf]; omega
    ·go_simp
     (clear q6); refine (af B p 9 vx T.2.2.2.1).mono ?_; rintro e vx3 ⟨y9, rfl, y90, -, y9p, -, cc, bb⟩; (have y9q := y9p (by decide)); (replace T := T.call cc bb); (clear y9p cc bb); (have q6 := T.1.cell (i := 6) rfl)
     (try go_wp2_with fail)
     refine hK.out _ _ ?_ (fun hHeld => ?_)
     ·trivial
     clear hK K
     (try simp only [zA])
     refine zTk 4 ?_
     refine wpAnyH_ready (rs := [1, 5]) (by kernel_rfl) (by simp) ?_
     refine (zC (fun K hK => ?_) (zR fun K hK => ?_))
     ·go_simp
      refine hK.out _ _ ?_ (fun hHeld => ?_)
      ·trivial
      clear hK K
      (try simp only [zA])
      refine zQ 5 fun K hK => ?_
      go_simp
      (clear q6); (generalize IntKind.i64.wrap (y9 - 4) = y4 at *); (have A6 := Below.nw vx3 (.cells #[.int .i64 y4] 3)); (have HN : Hid (∀ j u, [Value.int .i64 y4][j]? = some u → (vx3.alloc (.cells #[.int .i64 y4] 3)).cell? ((⟨vx3.heap.size, 0, none⟩ : Addr).add j) = some u) := bR vx3 y4 3); (replace T := T.below A6); (clear A6); (generalize vx3.alloc (.cells #[.int .i64 y4] 3) = vx5 at *); (generalize vx3.heap.size = jb at *); (have q6 := T.1.cell (i := 6) rfl)
      refine hK.out _ _ ?_ (fun hHeld => ?_)
      ·trivial
      clear hK K
      (try simp only [zA])
      refine zQ 6 fun K hK => ?_
      rw [if_pos (by rfl)]; (clear q6); refine aH _ _ 24 rfl w.heap.size 3 i0 (.int .i64 0) 1 8 Tryz.underlying24 hi hz0 hz1 hz2 rfl (by decide) _ _ _ rfl T.2.2.1 ⟨jb, 0, none⟩ 1 1 [.int .i64 y4] rfl rfl HN.out (by intro u hu; simp at hu; subst hu; rfl) (by unfold maxLen; omega) (by omega) T.2.2.2.2.2.2.2.2.2.2.2 ?_; intro v' wn hown' hgrow hfr; (obtain ⟨P', c', rfl⟩ := bT hown'); (have R9 : wn.ownsRow w.heap.size 3 1 (.slice P' (L.length + 1) c') (L ++ [y4]).length (aG (L ++ [y4])) := by rw [bd, List.length_append]; exact hown'); (have T9 := T.grow hgrow R9 hfr); (clear hown' hgrow hfr HN T R9); (have T := T9); (clear T9); (have g0 := T.1.1); (have q6 := T.1.cell (i := 6) rfl); (have f6 := T.1.2.2 6 (by simp)); (have hst6 := aw (P := Tryz.prog) (v := .slice P' (L.length + 1) c') q6 f6 rfl); (have T5 := T.set 6 (.slice P' (L.length + 1) c')); (have HT5 : Hid _ := T5); (clear T T5 q6 f6 g0)
      refine hK.out _ _ ?_ (fun hHeld => ?_)
      ·trivial
      clear hK K
      (try simp only [zA])
      refine zTk 7 ?_
      refine zQ 8 fun K hK => ?_
      go_simp
      (try rw [hst6]); (try go_simp)
      refine hK.out _ _ ?_ (fun hHeld => ?_)
      ·trivial
      clear hK K
      (try simp only [zA])
      refine wpAnyH_done (by kernel_rfl) ?_ _
      clear hst6
      have T : DrS w.heap.size B p ob (w.heap.size + 1) none w (wn.setCell ⟨ob, 6, none⟩ (.slice P' (L.length + 1) c')) #[.int .i64 1, .int .i64 0, .int .i64 0, .int .i64 f, .int .i64 0, .string ⟨#[]⟩, .slice P' (L ++ [y4]).length c'] #[.int .i64 0, .int .i64 0, .int .i64 0, .int .i64 0, .int .i64 0, .string ⟨#[]⟩, .slice none 0 0] (.slice P' (L ++ [y4]).length c') (L ++ [y4]) := by (rw [show (L ++ [y4]).length = L.length + 1 by rw [List.length_append]; rfl]; exact HT5.out)
      clear HT5
      generalize wn.setCell ⟨ob, 6, none⟩ (.slice P' (L.length + 1) c') = v9 at *
      go_wp2_with fail
      go_roundw
      case rel => exact ⟨P', L ++ [y4], c', by (rw [List.length_append]; try go_num), by (rw [List.length_append]; show L.length + 1 ≤ 5; omega), T⟩
      case measure => simp [intOf]; omega
     ·go_simp
      (clear q6); (generalize IntKind.i64.wrap (y9 - 4) = y4 at *); (have A6 := Below.nw vx3 (.cells #[.int .i64 y4] 3)); (have HN : Hid (∀ j u, [Value.int .i64 y4][j]? = some u → (vx3.alloc (.cells #[.int .i64 y4] 3)).cell? ((⟨vx3.heap.size, 0, none⟩ : Addr).add j) = some u) := bR vx3 y4 3); (replace T := T.below A6); (clear A6); (generalize vx3.alloc (.cells #[.int .i64 y4] 3) = vx5 at *); (generalize vx3.heap.size = jb at *); (have q6 := T.1.cell (i := 6) rfl)
      refine hK.out _ _ ?_ (fun hHeld => ?_)
      ·trivial
      clear hK K
      (try simp only [zA])
      refine zQ 1 fun K hK => ?_
      go_simp
      refine hK.out _ _ ?_ (fun hHeld => ?_)
      ·trivial
      clear hK K
      (try simp only [zA])
      refine zQ 6 fun K hK => ?_
      rw [if_pos (by rfl)]; (clear q6); refine aH _ _ 24 rfl w.heap.size 3 i0 (.int .i64 0) 1 8 Tryz.underlying24 hi hz0 hz1 hz2 rfl (by decide) _ _ _ rfl T.2.2.1 ⟨jb, 0, none⟩ 1 1 [.int .i64 y4] rfl rfl HN.out (by intro u hu; simp at hu; subst hu; rfl) (by unfold maxLen; omega) (by omega) T.2.2.2.2.2.2.2.2.2.2.2 ?_; intro v' wn hown' hgrow hfr; (obtain ⟨P', c', rfl⟩ := bT hown'); (have R9 : wn.ownsRow w.heap.size 3 1 (.slice P' (L.length + 1) c') (L ++ [y4]).length (aG (L ++ [y4])) := by rw [bd, List.length_append]; exact hown'); (have T9 := T.grow hgrow R9 hfr); (clear hown' hgrow hfr HN T R9); (have T := T9); (clear T9); (have g0 := T.1.1); (have q6 := T.1.cell (i := 6) rfl); (have f6 := T.1.2.2 6 (by simp)); (have hst6 := aw (P := Tryz.prog) (v := .slice P' (L.length + 1) c') q6 f6 rfl); (have T5 := T.set 6 (.slice P' (L.length + 1) c')); (have HT5 : Hid _ := T5); (clear T T5 q6 f6 g0)
      refine hK.out _ _ ?_ (fun hHeld => ?_)
      ·trivial
      clear hK K
      (try simp only [zA])
      refine zTk 7 ?_
      refine zQ 8 fun K hK => ?_
      go_simp
      (try rw [hst6]); (try go_simp)
      refine hK.out _ _ ?_ (fun hHeld => ?_)
      ·trivial
      clear hK K
      (try simp only [zA])
      refine wpAnyH_done (by kernel_rfl) ?_ _
      clear hst6
      have T : DrS w.heap.size B p ob (w.heap.size + 1) none w (wn.setCell ⟨ob, 6, none⟩ (.slice P' (L.length + 1) c')) #[.int .i64 1, .int .i64 0, .int .i64 0, .int .i64 f, .int .i64 0, .string ⟨#[]⟩, .slice P' (L ++ [y4]).length c'] #[.int .i64 0, .int .i64 0, .int .i64 0, .int .i64 0, .int .i64 0, .string ⟨#[]⟩, .slice none 0 0] (.slice P' (L ++ [y4]).length c') (L ++ [y4]) := by (rw [show (L ++ [y4]).length = L.length + 1 by rw [List.length_append]; rfl]; exact HT5.out)
      clear HT5
      generalize wn.setCell ⟨ob, 6, none⟩ (.slice P' (L.length + 1) c') = v9 at *
      go_wp2_with fail
      go_roundw
      case rel => exact ⟨P', L ++ [y4], c', by (rw [List.length_append]; try go_num), by (rw [List.length_append]; show L.length + 1 ≤ 5; omega), T⟩
      case measure => simp [intOf]; omega
   ·skip
    (try go_wp2_with fail)
    have hL := T.1.load (P := Tryz.prog) (n := 7) rfl
    have hst := Bo.store (P := Tryz.prog) (b := 0) [.int .i64 1, .int .i64 0, .int .i64 0, .int .i64 f, .int .i64 0, .string ⟨#[]⟩, .slice P L.length c] 0 0 T.2.1 rfl (by simp) (by intro u hu; simp only [List.mem_cons, List.not_mem_nil, or_false] at hu; rcases hu with h | h | h | h | h | h | h <;> (subst h; rfl))
    have RS := T.result [.int .i64 1, .int .i64 0, .int .i64 0, .int .i64 f, .int .i64 0, .string ⟨#[]⟩, .slice P L.length c] rfl
    have HW : Hid (_ ∧ _) := RS
    clear RS T
    go_wp2_with (first | rw [hL] | rw [hst])
    (try go_simp)
    (try go_wp2_with fail)
    clear hL hst
    generalize ac v6 (w.heap.size + 1) 0 [.int .i64 1, .int .i64 0, .int .i64 0, .int .i64 f, .int .i64 0, .string ⟨#[]⟩, .slice P L.length c] = vz at *
    have hL := HW.out.1.load (P := Tryz.prog) (n := 7) rfl
    (try simp only [Exit.inBlock, Exit.then])
    exact bodyPost_ret (v := .agg #[.int .i64 1, .int .i64 0, .int .i64 0, .int .i64 f, .int .i64 0, .string ⟨#[]⟩, .slice P L.length c]) (by simp [results, Tryz.results51, go_sem]; rw [hL]; rfl) rfl (aC 1 0 0 f 0 ⟨#[]⟩ P L c rfl rfl (by decide) hL5 HW.out.2.1 HW.out.2.2.1 HW.out.2.2.2)
 ·go_wp2_with fail
  refine (af B p 25 v5 T.2.2.2.1).mono ?_
  rintro e va ⟨f, rfl, f0, -, fp, -, cc, bb⟩
  have fq := fp (by decide)
  replace T := T.call cc bb
  clear fp cc bb
  have Q := Bo.new va #[.int .i64 0, .int .i64 0, .int .i64 0, .int .i64 0, .int .i64 0, .string ⟨#[]⟩, .slice none 0 0] 26
  have hst : (storeCells ⟨va.heap.size, 0, none⟩ [.int .i64 1, .int .i64 0, .int .i64 0, .int .i64 f, .int .i64 0, .string ⟨#[]⟩, .slice none 0 0] 0).run Tryz.prog (va.alloc (.cells #[.int .i64 0, .int .i64 0, .int .i64 0, .int .i64 0, .int .i64 0, .string ⟨#[]⟩, .slice none 0 0] 26)) = .ok () (ac (va.alloc (.cells #[.int .i64 0, .int .i64 0, .int .i64 0, .int .i64 0, .int .i64 0, .string ⟨#[]⟩, .slice none 0 0] 26)) va.heap.size 0 [.int .i64 1, .int .i64 0, .int .i64 0, .int .i64 f, .int .i64 0, .string ⟨#[]⟩, .slice none 0 0]) := Bo.store (P := Tryz.prog) (b := 0) [.int .i64 1, .int .i64 0, .int .i64 0, .int .i64 f, .int .i64 0, .string ⟨#[]⟩, .slice none 0 0] 0 0 Q rfl (by simp) (by intro u hu; simp only [List.mem_cons, List.not_mem_nil, or_false] at hu; rcases hu with h | h | h | h | h | h | h <;> (subst h; rfl))
  replace Q : Bo (ac (va.alloc (.cells #[.int .i64 0, .int .i64 0, .int .i64 0, .int .i64 0, .int .i64 0, .string ⟨#[]⟩, .slice none 0 0] 26)) va.heap.size 0 [.int .i64 1, .int .i64 0, .int .i64 0, .int .i64 f, .int .i64 0, .string ⟨#[]⟩, .slice none 0 0]) va.heap.size #[.int .i64 1, .int .i64 0, .int .i64 0, .int .i64 f, .int .i64 0, .string ⟨#[]⟩, .slice none 0 0] := Q.putW (U := #[.int .i64 1, .int .i64 0, .int .i64 0, .int .i64 f, .int .i64 0, .string ⟨#[]⟩, .slice none 0 0]) rfl
  have hb := ai (k := va.heap.size) [.int .i64 1, .int .i64 0, .int .i64 0, .int .i64 f, .int .i64 0, .string ⟨#[]⟩, .slice none 0 0] va _ 0 (Below.nw va (.cells #[.int .i64 0, .int .i64 0, .int .i64 0, .int .i64 0, .int .i64 0, .string ⟨#[]⟩, .slice none 0 0] 26)) (Nat.le_refl _)
  have hwa : w.heap.size + 1 < va.heap.size := T.2.1.1
  have T2 : DrS w.heap.size B p va.heap.size (w.heap.size + 1) none w (ac (va.alloc (.cells #[.int .i64 0, .int .i64 0, .int .i64 0, .int .i64 0, .int .i64 0, .string ⟨#[]⟩, .slice none 0 0] 26)) va.heap.size 0 [.int .i64 1, .int .i64 0, .int .i64 0, .int .i64 f, .int .i64 0, .string ⟨#[]⟩, .slice none 0 0]) #[.int .i64 1, .int .i64 0, .int .i64 0, .int .i64 f, .int .i64 0, .string ⟨#[]⟩, .slice none 0 0] #[.int .i64 0, .int .i64 0, .int .i64 0, .int .i64 0, .int .i64 0, .string ⟨#[]⟩, .slice none 0 0] (.slice none 0 0) [] := ⟨Q, T.2.1.below hb, World.ownsRow_nil _ _ _ _, T.2.2.2.1.below hb, T.2.2.2.2.1.trans (au hb (by omega)), ⟨fun q hq => by simp [Value.ownBlock] at hq, fun k hk hp ho => (hb.block k (by omega)).trans (T.2.2.2.2.2.1.2.1 k hk hp ho), fun q hq => by simp [Value.ownBlock] at hq, by omega, by omega, Nat.le_trans (by omega) hb.size⟩, by omega, by omega, by omega, hpB.1, hpB.2, Nat.le_trans (by omega) hb.size⟩
  clear Q hb T
  have T := T2
  clear T2
  go_upto_region 11 with (rw [hst])
  clear hst hwa
  generalize ac (va.alloc (.cells #[.int .i64 0, .int .i64 0, .int .i64 0, .int .i64 0, .int .i64 0, .string ⟨#[]⟩, .slice none 0 0] 26)) va.heap.size 0 [.int .i64 1, .int .i64 0, .int .i64 0, .int .i64 f, .int .i64 0, .string ⟨#[]⟩, .slice none 0 0] = vb at *
  generalize va.heap.size = ob at *
  go_wp2_with fail
  go_loopw [10] (fun i wr => ∃ (P : Option Addr) (L : List Int) (c : Nat), i = .int .i64 (L.length : Int) ∧ L.length ≤ 5 ∧ DrS w.heap.size B p ob (w.heap.size + 1) none w wr #[.int .i64 1, .int .i64 0, .int .i64 0, .int .i64 f, .int .i64 0, .string ⟨#[]⟩, .slice P L.length c] #[.int .i64 0, .int .i64 0, .int .i64 0, .int .i64 0, .int .i64 0, .string ⟨#[]⟩, .slice none 0 0] (.slice P L.length c) L) (fun i _ => 5 - (intOf i).toNat)
  case atStart => exact ⟨none, [], 0, rfl, by decide, T⟩
  case round =>
   clear T
   obtain ⟨P, L, c, rfl, hL5, T⟩ := hrel
   go_wp2_with fail
   refine (af B p 6 wr T.2.2.2.1).mono ?_
   rintro e v6 ⟨z6, rfl, z60, -, z6p, -, cc, bb⟩
   have z6q := z6p (by decide)
   replace T := T.call cc bb
   clear z6p cc bb
   by_cases hlz : (L.length : Int) < z6
   ·go_upto_region 13 with fail
    refine wp_region_held_drew (S := (fun _ => True)) (by kernel_rfl) ?_ (fun hHeld => ?_)
    ·trivial
    replace T := T.drew
    generalize v6.drew = vx at *
    have q6 := T.1.cell (i := 6) rfl
    refine zTk 0 ?_
    refine zTk 2 ?_
    refine wpAnyH_ready (rs := [1, 3]) (by kernel_rfl) (by simp) ?_
    refine (zC (fun K hK => ?_) (zR fun K hK => ?_))
    ·go_simp
     refine hK.out _ _ ?_ (fun hHeld => ?_)
     ·trivial
     clear hK K
     (try simp only [zA])
     refine zQ 3 fun K hK => ?_
     go_simp
     (clear q6); refine (af B p 9 vx T.2.2.2.1).mono ?_; rintro e vx3 ⟨y9, rfl, y90, -, y9p, -, cc, bb⟩; (have y9q := y9p (by decide)); (replace T := T.call cc bb); (clear y9p cc bb); (have q6 := T.1.cell (i := 6) rfl)
     (try go_wp2_with fail)
     refine hK.out _ _ ?_ (fun hHeld => ?_)
     ·trivial
     clear hK K
     (try simp only [zA])
     refine zTk 4 ?_
     refine zQ 5 fun K hK => ?_
     go_simp
     (clear q6); (generalize IntKind.i64.wrap (y9 - 4) = y4 at *); (have A6 := Below.nw vx3 (.cells #[.int .i64 y4] 3)); (have HN : Hid (∀ j u, [Value.int .i64 y4][j]? = some u → (vx3.alloc (.cells #[.int .i64 y4] 3)).cell? ((⟨vx3.heap.size, 0, none⟩ : Addr).add j) = some u) := bR vx3 y4 3); (replace T := T.below A6); (clear A6); (generalize vx3.alloc (.cells #[.int .i64 y4] 3) = vx5 at *); (generalize vx3.heap.size = jb at *); (have q6 := T.1.cell (i := 6) rfl)
     refine hK.out _ _ ?_ (fun hHeld => ?_)
     ·trivial
     clear hK K
     (try simp only [zA])
     refine zQ 6 fun K hK => ?_
     rw [if_pos (by rfl)]; (clear q6); refine aH _ _ 24 rfl w.heap.size 3 i0 (.int .i64 0) 1 8 Tryz.underlying24 hi hz0 hz1 hz2 rfl (by decide) _ _ _ rfl T.2.2.1 ⟨jb, 0, none⟩ 1 1 [.int .i64 y4] rfl rfl HN.out (by intro u hu; simp at hu; subst hu; rfl) (by unfold maxLen; omega) (by omega) T.2.2.2.2.2.2.2.2.2.2.2 ?_; intro v' wn hown' hgrow hfr; (obtain ⟨P', c', rfl⟩ := bT hown'); (have R9 : wn.ownsRow w.heap.size 3 1 (.slice P' (L.length + 1) c') (L ++ [y4]).length (aG (L ++ [y4])) := by rw [bd, List.length_append]; exact hown'); (have T9 := T.grow hgrow R9 hfr); (clear hown' hgrow hfr HN T R9); (have T := T9); (clear T9); (have g0 := T.1.1); (have q6 := T.1.cell (i := 6) rfl); (have f6 := T.1.2.2 6 (by simp)); (have hst6 := aw (P := Tryz.prog) (v := .slice P' (L.length + 1) c') q6 f6 rfl); (have T5 := T.set 6 (.slice P' (L.length + 1) c')); (have HT5 : Hid _ := T5); (clear T T5 q6 f6 g0)
     refine hK.out _ _ ?_ (fun hHeld => ?_)
     ·trivial
     clear hK K
     (try simp only [zA])
     refine zTk 7 ?_
     refine zQ 8 fun K hK => ?_
     go_simp
     (try rw [hst6]); (try go_simp)
     refine hK.out _ _ ?_ (fun hHeld => ?_)
     ·trivial
     clear hK K
     (try simp only [zA])
     refine wpAnyH_done (by kernel_rfl) ?_ _
     clear hst6
     have T : DrS w.heap.size B p ob (w.heap.size + 1) none w (wn.setCell ⟨ob, 6, none⟩ (.slice P' (L.length + 1) c')) #[.int .i64 1, .int .i64 0, .int .i64 0, .int .i64 f, .int .i64 0, .string ⟨#[]⟩, .slice P' (L ++ [y4]).length c'] #[.int .i64 0, .int .i64 0, .int .i64 0, .int .i64 0, .int .i64 0, .string ⟨#[]⟩, .slice none 0 0] (.slice P' (L ++ [y4]).length c') (L ++ [y4]) := by (rw [show (L ++ [y4]).length = L.length + 1 by rw [List.length_append]; rfl]; exact HT5.out)
     clear HT5
     generalize wn.setCell ⟨ob, 6, none⟩ (.slice P' (L.length + 1) c') = v9 at *
     go_wp2_with fail
     go_roundw
     case rel => exact ⟨P', L ++ [y4], c', by (rw [List.length_append]; try go_num), by (rw [List.length_append]; show L.length + 1 ≤ 5; omega), T⟩
     case measure => simp [intOf]; omega
    ·go_simp
     (clear q6); refine (af B p 9 vx T.2.2.2.1).mono ?_; rintro e vx3 ⟨y9, rfl, y90, -, y9p, -, cc, bb⟩; (have y9q := y9p (by decide)); (replace T := T.call cc bb); (clear y9p cc bb); (have q6 := T.1.cell (i := 6) rfl)
     (try go_wp2_with fail)
     refine hK.out _ _ ?_ (fun hHeld => ?_)
     ·trivial
     clear hK K
     (try simp only [zA])
     refine zTk 4 ?_
     refine wpAnyH_ready (rs := [1, 5]) (by kernel_rfl) (by simp) ?_
     refine (zC (fun K hK => ?_) (zR fun K hK => ?_))
     ·go_simp
      refine hK.out _ _ ?_ (fun hHeld => ?_)
      ·trivial
      clear hK K
      (try simp only [zA])
      refine zQ 5 fun K hK => ?_
      go_simp
      (clear q6); (generalize IntKind.i64.wrap (y9 - 4) = y4 at *); (have A6 := Below.nw vx3 (.cells #[.int .i64 y4] 3)); (have HN : Hid (∀ j u, [Value.int .i64 y4][j]? = some u → (vx3.alloc (.cells #[.int .i64 y4] 3)).cell? ((⟨vx3.heap.size, 0, none⟩ : Addr).add j) = some u) := bR vx3 y4 3); (replace T := T.below A6); (clear A6); (generalize vx3.alloc (.cells #[.int .i64 y4] 3) = vx5 at *); (generalize vx3.heap.size = jb at *); (have q6 := T.1.cell (i := 6) rfl)
      refine hK.out _ _ ?_ (fun hHeld => ?_)
      ·trivial
      clear hK K
      (try simp only [zA])
      refine zQ 6 fun K hK => ?_
      rw [if_pos (by rfl)]; (clear q6); refine aH _ _ 24 rfl w.heap.size 3 i0 (.int .i64 0) 1 8 Tryz.underlying24 hi hz0 hz1 hz2 rfl (by decide) _ _ _ rfl T.2.2.1 ⟨jb, 0, none⟩ 1 1 [.int .i64 y4] rfl rfl HN.out (by intro u hu; simp at hu; subst hu; rfl) (by unfold maxLen; omega) (by omega) T.2.2.2.2.2.2.2.2.2.2.2 ?_; intro v' wn hown' hgrow hfr; (obtain ⟨P', c', rfl⟩ := bT hown'); (have R9 : wn.ownsRow w.heap.size 3 1 (.slice P' (L.length + 1) c') (L ++ [y4]).length (aG (L ++ [y4])) := by rw [bd, List.length_append]; exact hown'); (have T9 := T.grow hgrow R9 hfr); (clear hown' hgrow hfr HN T R9); (have T := T9); (clear T9); (have g0 := T.1.1); (have q6 := T.1.cell (i := 6) rfl); (have f6 := T.1.2.2 6 (by simp)); (have hst6 := aw (P := Tryz.prog) (v := .slice P' (L.length + 1) c') q6 f6 rfl); (have T5 := T.set 6 (.slice P' (L.length + 1) c')); (have HT5 : Hid _ := T5); (clear T T5 q6 f6 g0)
      refine hK.out _ _ ?_ (fun hHeld => ?_)
      ·trivial
      clear hK K
      (try simp only [zA])
      refine zTk 7 ?_
      refine zQ 8 fun K hK => ?_
      go_simp
      (try rw [hst6]); (try go_simp)
      refine hK.out _ _ ?_ (fun hHeld => ?_)
      ·trivial
      clear hK K
      (try simp only [zA])
      refine wpAnyH_done (by kernel_rfl) ?_ _
      clear hst6
      have T : DrS w.heap.size B p ob (w.heap.size + 1) none w (wn.setCell ⟨ob, 6, none⟩ (.slice P' (L.length + 1) c')) #[.int .i64 1, .int .i64 0, .int .i64 0, .int .i64 f, .int .i64 0, .string ⟨#[]⟩, .slice P' (L ++ [y4]).length c'] #[.int .i64 0, .int .i64 0, .int .i64 0, .int .i64 0, .int .i64 0, .string ⟨#[]⟩, .slice none 0 0] (.slice P' (L ++ [y4]).length c') (L ++ [y4]) := by (rw [show (L ++ [y4]).length = L.length + 1 by rw [List.length_append]; rfl]; exact HT5.out)
      clear HT5
      generalize wn.setCell ⟨ob, 6, none⟩ (.slice P' (L.length + 1) c') = v9 at *
      go_wp2_with fail
      go_roundw
      case rel => exact ⟨P', L ++ [y4], c', by (rw [List.length_append]; try go_num), by (rw [List.length_append]; show L.length + 1 ≤ 5; omega), T⟩
      case measure => simp [intOf]; omega
     ·go_simp
      (clear q6); (generalize IntKind.i64.wrap (y9 - 4) = y4 at *); (have A6 := Below.nw vx3 (.cells #[.int .i64 y4] 3)); (have HN : Hid (∀ j u, [Value.int .i64 y4][j]? = some u → (vx3.alloc (.cells #[.int .i64 y4] 3)).cell? ((⟨vx3.heap.size, 0, none⟩ : Addr).add j) = some u) := bR vx3 y4 3); (replace T := T.below A6); (clear A6); (generalize vx3.alloc (.cells #[.int .i64 y4] 3) = vx5 at *); (generalize vx3.heap.size = jb at *); (have q6 := T.1.cell (i := 6) rfl)
      refine hK.out _ _ ?_ (fun hHeld => ?_)
      ·trivial
      clear hK K
      (try simp only [zA])
      refine zQ 1 fun K hK => ?_
      go_simp
      refine hK.out _ _ ?_ (fun hHeld => ?_)
      ·trivial
      clear hK K
      (try simp only [zA])
      refine zQ 6 fun K hK => ?_
      rw [if_pos (by rfl)]; (clear q6); refine aH _ _ 24 rfl w.heap.size 3 i0 (.int .i64 0) 1 8 Tryz.underlying24 hi hz0 hz1 hz2 rfl (by decide) _ _ _ rfl T.2.2.1 ⟨jb, 0, none⟩ 1 1 [.int .i64 y4] rfl rfl HN.out (by intro u hu; simp at hu; subst hu; rfl) (by unfold maxLen; omega) (by omega) T.2.2.2.2.2.2.2.2.2.2.2 ?_; intro v' wn hown' hgrow hfr; (obtain ⟨P', c', rfl⟩ := bT hown'); (have R9 : wn.ownsRow w.heap.size 3 1 (.slice P' (L.length + 1) c') (L ++ [y4]).length (aG (L ++ [y4])) := by rw [bd, List.length_append]; exact hown'); (have T9 := T.grow hgrow R9 hfr); (clear hown' hgrow hfr HN T R9); (have T := T9); (clear T9); (have g0 := T.1.1); (have q6 := T.1.cell (i := 6) rfl); (have f6 := T.1.2.2 6 (by simp)); (have hst6 := aw (P := Tryz.prog) (v := .slice P' (L.length + 1) c') q6 f6 rfl); (have T5 := T.set 6 (.slice P' (L.length + 1) c')); (have HT5 : Hid _ := T5); (clear T T5 q6 f6 g0)
      refine hK.out _ _ ?_ (fun hHeld => ?_)
      ·trivial
      clear hK K
      (try simp only [zA])
      refine zTk 7 ?_
      refine zQ 8 fun K hK => ?_
      go_simp
      (try rw [hst6]); (try go_simp)
      refine hK.out _ _ ?_ (fun hHeld => ?_)
      ·trivial
      clear hK K
      (try simp only [zA])
      refine wpAnyH_done (by kernel_rfl) ?_ _
      clear hst6
      have T : DrS w.heap.size B p ob (w.heap.size + 1) none w (wn.setCell ⟨ob, 6, none⟩ (.slice P' (L.length + 1) c')) #[.int .i64 1, .int .i64 0, .int .i64 0, .int .i64 f, .int .i64 0, .string ⟨#[]⟩, .slice P' (L ++ [y4]).length c'] #[.int .i64 0, .int .i64 0, .int .i64 0, .int .i64 0, .int .i64 0, .string ⟨#[]⟩, .slice none 0 0] (.slice P' (L ++ [y4]).length c') (L ++ [y4]) := by (rw [show (L ++ [y4]).length = L.length + 1 by rw [List.length_append]; rfl]; exact HT5.out)
      clear HT5
      generalize wn.setCell ⟨ob, 6, none⟩ (.slice P' (L.length + 1) c') = v9 at *
      go_wp2_with fail
      go_roundw
      case rel => exact ⟨P', L ++ [y4], c', by (rw [List.length_append]; try go_num), by (rw [List.length_append]; show L.length + 1 ≤ 5; omega), T⟩
      case measure => simp [intOf]; omega
   ·skip
    (try go_wp2_with fail)
    have hL := T.1.load (P := Tryz.prog) (n := 7) rfl
    have hst := Bo.store (P := Tryz.prog) (b := 0) [.int .i64 1, .int .i64 0, .int .i64 0, .int .i64 f, .int .i64 0, .string ⟨#[]⟩, .slice P L.length c] 0 0 T.2.1 rfl (by simp) (by intro u hu; simp only [List.mem_cons, List.not_mem_nil, or_false] at hu; rcases hu with h | h | h | h | h | h | h <;> (subst h; rfl))
    have RS := T.result [.int .i64 1, .int .i64 0, .int .i64 0, .int .i64 f, .int .i64 0, .string ⟨#[]⟩, .slice P L.length c] rfl
    have HW : Hid (_ ∧ _) := RS
    clear RS T
    go_wp2_with (first | rw [hL] | rw [hst])
    (try go_simp)
    (try go_wp2_with fail)
    clear hL hst
    generalize ac v6 (w.heap.size + 1) 0 [.int .i64 1, .int .i64 0, .int .i64 0, .int .i64 f, .int .i64 0, .string ⟨#[]⟩, .slice P L.length c] = vz at *
    have hL := HW.out.1.load (P := Tryz.prog) (n := 7) rfl
    (try simp only [Exit.inBlock, Exit.then])
    exact bodyPost_ret (v := .agg #[.int .i64 1, .int .i64 0, .int .i64 0, .int .i64 f, .int .i64 0, .string ⟨#[]⟩, .slice P L.length c]) (by simp [results, Tryz.results51, go_sem]; rw [hL]; rfl) rfl (aC 1 0 0 f 0 ⟨#[]⟩ P L c rfl rfl (by decide) hL5 HW.out.2.1 HW.out.2.2.1 HW.out.2.2.2)
 ·have hst := Bo.store (P := Tryz.prog) (b := 0) [.int .i64 2, .int .i64 x, .int .i64 0, .int .i64 0, .int .i64 0, .string ⟨#[]⟩, .slice none 0 0] 0 0 T.2.1 rfl (by simp) (by intro u hu; simp only [List.mem_cons, List.not_mem_nil, or_false] at hu; rcases hu with h | h | h | h | h | h | h <;> (subst h; rfl))
  have RS := T.result [.int .i64 2, .int .i64 x, .int .i64 0, .int .i64 0, .int .i64 0, .string ⟨#[]⟩, .slice none 0 0] rfl
  have HW : Hid (_ ∧ _) := RS
  clear RS T
  go_wp2_with (rw [hst])
  (try go_simp)
  (try go_wp2_with fail)
  clear hst
  generalize ac v5 (w.heap.size + 1) 0 [.int .i64 2, .int .i64 x, .int .i64 0, .int .i64 0, .int .i64 0, .string ⟨#[]⟩, .slice none 0 0] = vz at *
  have hL := HW.out.1.load (P := Tryz.prog) (n := 7) rfl
  (try simp only [Exit.inBlock, Exit.then])
  exact bodyPost_ret (v := .agg #[.int .i64 2, .int .i64 x, .int .i64 0, .int .i64 0, .int .i64 0, .string ⟨#[]⟩, .slice none 0 0]) (by simp [results, Tryz.results51, go_sem]; rw [hL]; rfl) rfl (aC 2 x 0 0 0 ⟨#[]⟩ none [] 0 rfl rfl (by decide) (by decide) HW.out.2.1 HW.out.2.2.1 HW.out.2.2.2)
 ·go_wp2_with fail
  refine (aB B p 4 v5 T.2.2.2.1).mono ?_
  rintro e v6 ⟨bo, rfl, cc, bb⟩
  replace T := T.call cc bb
  clear cc bb
  cases bo
  ·skip
   have hst := Bo.store (P := Tryz.prog) (b := 0) [.int .i64 2, .int .i64 x, .int .i64 0, .int .i64 0, .int .i64 0, .string ⟨#[]⟩, .slice none 0 0] 0 0 T.2.1 rfl (by simp) (by intro u hu; simp only [List.mem_cons, List.not_mem_nil, or_false] at hu; rcases hu with h | h | h | h | h | h | h <;> (subst h; rfl))
   have RS := T.result [.int .i64 2, .int .i64 x, .int .i64 0, .int .i64 0, .int .i64 0, .string ⟨#[]⟩, .slice none 0 0] rfl
   have HW : Hid (_ ∧ _) := RS
   clear RS T
   go_wp2_with (rw [hst])
   (try go_simp)
   (try go_wp2_with fail)
   clear hst
   generalize ac v6 (w.heap.size + 1) 0 [.int .i64 2, .int .i64 x, .int .i64 0, .int .i64 0, .int .i64 0, .string ⟨#[]⟩, .slice none 0 0] = vz at *
   have hL := HW.out.1.load (P := Tryz.prog) (n := 7) rfl
   (try simp only [Exit.inBlock, Exit.then])
   exact bodyPost_ret (v := .agg #[.int .i64 2, .int .i64 x, .int .i64 0, .int .i64 0, .int .i64 0, .string ⟨#[]⟩, .slice none 0 0]) (by simp [results, Tryz.results51, go_sem]; rw [hL]; rfl) rfl (aC 2 x 0 0 0 ⟨#[]⟩ none [] 0 rfl rfl (by decide) (by decide) HW.out.2.1 HW.out.2.2.1 HW.out.2.2.2)
  ·skip
   have hst := Bo.store (P := Tryz.prog) (b := 0) [.int .i64 3, .int .i64 x, .int .i64 0, .int .i64 0, .int .i64 0, .string ⟨#[]⟩, .slice none 0 0] 0 0 T.2.1 rfl (by simp) (by intro u hu; simp only [List.mem_cons, List.not_mem_nil, or_false] at hu; rcases hu with h | h | h | h | h | h | h <;> (subst h; rfl))
   have RS := T.result [.int .i64 3, .int .i64 x, .int .i64 0, .int .i64 0, .int .i64 0, .string ⟨#[]⟩, .slice none 0 0] rfl
   have HW : Hid (_ ∧ _) := RS
   clear RS T
   go_wp2_with (rw [hst])
   (try go_simp)
   (try go_wp2_with fail)
   clear hst
   generalize ac v6 (w.heap.size + 1) 0 [.int .i64 3, .int .i64 x, .int .i64 0, .int .i64 0, .int .i64 0, .string ⟨#[]⟩, .slice none 0 0] = vz at *
   have hL := HW.out.1.load (P := Tryz.prog) (n := 7) rfl
   (try simp only [Exit.inBlock, Exit.then])
   exact bodyPost_ret (v := .agg #[.int .i64 3, .int .i64 x, .int .i64 0, .int .i64 0, .int .i64 0, .string ⟨#[]⟩, .slice none 0 0]) (by simp [results, Tryz.results51, go_sem]; rw [hL]; rfl) rfl (aC 3 x 0 0 0 ⟨#[]⟩ none [] 0 rfl rfl (by decide) (by decide) HW.out.2.1 HW.out.2.2.1 HW.out.2.2.2)
 ·go_wp2_with fail
  refine (af B p 6 v5 T.2.2.2.1).mono ?_
  rintro e v6 ⟨f, rfl, f0, -, fp, -, cc, bb⟩
  have fq := fp (by decide)
  replace T := T.call cc bb
  clear fp cc bb
  go_wp2_with fail
  refine (af B p 6 v6 T.2.2.2.1).mono ?_
  rintro e v7 ⟨g, rfl, g0, -, gp, -, cc, bb⟩
  have gq := gp (by decide)
  replace T := T.call cc bb
  clear gp cc bb
  have hst := Bo.store (P := Tryz.prog) (b := 0) [.int .i64 4, .int .i64 x, .int .i64 0, .int .i64 f, .int .i64 g, .string ⟨#[]⟩, .slice none 0 0] 0 0 T.2.1 rfl (by simp) (by intro u hu; simp only [List.mem_cons, List.not_mem_nil, or_false] at hu; rcases hu with h | h | h | h | h | h | h <;> (subst h; rfl))
  have RS := T.result [.int .i64 4, .int .i64 x, .int .i64 0, .int .i64 f, .int .i64 g, .string ⟨#[]⟩, .slice none 0 0] rfl
  have HW : Hid (_ ∧ _) := RS
  clear RS T
  go_wp2_with (rw [hst])
  (try go_simp)
  (try go_wp2_with fail)
  clear hst
  generalize ac v7 (w.heap.size + 1) 0 [.int .i64 4, .int .i64 x, .int .i64 0, .int .i64 f, .int .i64 g, .string ⟨#[]⟩, .slice none 0 0] = vz at *
  have hL := HW.out.1.load (P := Tryz.prog) (n := 7) rfl
  (try simp only [Exit.inBlock, Exit.then])
  exact bodyPost_ret (v := .agg #[.int .i64 4, .int .i64 x, .int .i64 0, .int .i64 f, .int .i64 g, .string ⟨#[]⟩, .slice none 0 0]) (by simp [results, Tryz.results51, go_sem]; rw [hL]; rfl) rfl (aC 4 x 0 f g ⟨#[]⟩ none [] 0 rfl rfl (by decide) (by decide) HW.out.2.1 HW.out.2.2.1 HW.out.2.2.2)
 ·go_wp2_with fail
  refine (af B p 6 v5 T.2.2.2.1).mono ?_
  rintro e v6 ⟨f, rfl, f0, -, fp, -, cc, bb⟩
  have fq := fp (by decide)
  replace T := T.call cc bb
  clear fp cc bb
  go_wp2_with fail
  refine (af B p 6 v6 T.2.2.2.1).mono ?_
  rintro e v7 ⟨g, rfl, g0, -, gp, -, cc, bb⟩
  have gq := gp (by decide)
  replace T := T.call cc bb
  clear gp cc bb
  have hst := Bo.store (P := Tryz.prog) (b := 0) [.int .i64 4, .int .i64 x, .int .i64 0, .int .i64 f, .int .i64 g, .string ⟨#[]⟩, .slice none 0 0] 0 0 T.2.1 rfl (by simp) (by intro u hu; simp only [List.mem_cons, List.not_mem_nil, or_false] at hu; rcases hu with h | h | h | h | h | h | h <;> (subst h; rfl))
  have RS := T.result [.int .i64 4, .int .i64 x, .int .i64 0, .int .i64 f, .int .i64 g, .string ⟨#[]⟩, .slice none 0 0] rfl
  have HW : Hid (_ ∧ _) := RS
  clear RS T
  go_wp2_with (rw [hst])
  (try go_simp)
  (try go_wp2_with fail)
  clear hst
  generalize ac v7 (w.heap.size + 1) 0 [.int .i64 4, .int .i64 x, .int .i64 0, .int .i64 f, .int .i64 g, .string ⟨#[]⟩, .slice none 0 0] = vz at *
  have hL := HW.out.1.load (P := Tryz.prog) (n := 7) rfl
  (try simp only [Exit.inBlock, Exit.then])
  exact bodyPost_ret (v := .agg #[.int .i64 4, .int .i64 x, .int .i64 0, .int .i64 f, .int .i64 g, .string ⟨#[]⟩, .slice none 0 0]) (by simp [results, Tryz.results51, go_sem]; rw [hL]; rfl) rfl (aC 4 x 0 f g ⟨#[]⟩ none [] 0 rfl rfl (by decide) (by decide) HW.out.2.1 HW.out.2.2.1 HW.out.2.2.2)
 ·have hst := Bo.store (P := Tryz.prog) (b := 0) [.int .i64 5, .int .i64 x, .int .i64 (rn : Int), .int .i64 0, .int .i64 0, .string ⟨#[]⟩, .slice none 0 0] 0 0 T.2.1 rfl (by simp) (by intro u hu; simp only [List.mem_cons, List.not_mem_nil, or_false] at hu; rcases hu with h | h | h | h | h | h | h <;> (subst h; rfl))
  have RS := T.result [.int .i64 5, .int .i64 x, .int .i64 (rn : Int), .int .i64 0, .int .i64 0, .string ⟨#[]⟩, .slice none 0 0] rfl
  have HW : Hid (_ ∧ _) := RS
  clear RS T
  go_wp2_with (rw [hst])
  (try go_simp)
  (try go_wp2_with fail)
  clear hst
  generalize ac v5 (w.heap.size + 1) 0 [.int .i64 5, .int .i64 x, .int .i64 (rn : Int), .int .i64 0, .int .i64 0, .string ⟨#[]⟩, .slice none 0 0] = vz at *
  have hL := HW.out.1.load (P := Tryz.prog) (n := 7) rfl
  (try simp only [Exit.inBlock, Exit.then])
  exact bodyPost_ret (v := .agg #[.int .i64 5, .int .i64 x, .int .i64 (rn : Int), .int .i64 0, .int .i64 0, .string ⟨#[]⟩, .slice none 0 0]) (by simp [results, Tryz.results51, go_sem]; rw [hL]; rfl) rfl (aC 5 x (rn : Int) 0 0 ⟨#[]⟩ none [] 0 rfl rfl (by decide) (by decide) HW.out.2.1 HW.out.2.2.1 HW.out.2.2.2)
 ·have hst := Bo.store (P := Tryz.prog) (b := 0) [.int .i64 5, .int .i64 x, .int .i64 (rn : Int), .int .i64 0, .int .i64 0, .string ⟨#[]⟩, .slice none 0 0] 0 0 T.2.1 rfl (by simp) (by intro u hu; simp only [List.mem_cons, List.not_mem_nil, or_false] at hu; rcases hu with h | h | h | h | h | h | h <;> (subst h; rfl))
  have RS := T.result [.int .i64 5, .int .i64 x, .int .i64 (rn : Int), .int .i64 0, .int .i64 0, .string ⟨#[]⟩, .slice none 0 0] rfl
  have HW : Hid (_ ∧ _) := RS
  clear RS T
  go_wp2_with (rw [hst])
  (try go_simp)
  (try go_wp2_with fail)
  clear hst
  generalize ac v5 (w.heap.size + 1) 0 [.int .i64 5, .int .i64 x, .int .i64 (rn : Int), .int .i64 0, .int .i64 0, .string ⟨#[]⟩, .slice none 0 0] = vz at *
  have hL := HW.out.1.load (P := Tryz.prog) (n := 7) rfl
  (try simp only [Exit.inBlock, Exit.then])
  exact bodyPost_ret (v := .agg #[.int .i64 5, .int .i64 x, .int .i64 (rn : Int), .int .i64 0, .int .i64 0, .string ⟨#[]⟩, .slice none 0 0]) (by simp [results, Tryz.results51, go_sem]; rw [hL]; rfl) rfl (aC 5 x (rn : Int) 0 0 ⟨#[]⟩ none [] 0 rfl rfl (by decide) (by decide) HW.out.2.1 HW.out.2.2.1 HW.out.2.2.2)
 ·have hst := Bo.store (P := Tryz.prog) (b := 0) [.int .i64 5, .int .i64 x, .int .i64 (rn : Int), .int .i64 0, .int .i64 0, .string ⟨#[]⟩, .slice none 0 0] 0 0 T.2.1 rfl (by simp) (by intro u hu; simp only [List.mem_cons, List.not_mem_nil, or_false] at hu; rcases hu with h | h | h | h | h | h | h <;> (subst h; rfl))
  have RS := T.result [.int .i64 5, .int .i64 x, .int .i64 (rn : Int), .int .i64 0, .int .i64 0, .string ⟨#[]⟩, .slice none 0 0] rfl
  have HW : Hid (_ ∧ _) := RS
  clear RS T
  go_wp2_with (rw [hst])
  (try go_simp)
  (try go_wp2_with fail)
  clear hst
  generalize ac v5 (w.heap.size + 1) 0 [.int .i64 5, .int .i64 x, .int .i64 (rn : Int), .int .i64 0, .int .i64 0, .string ⟨#[]⟩, .slice none 0 0] = vz at *
  have hL := HW.out.1.load (P := Tryz.prog) (n := 7) rfl
  (try simp only [Exit.inBlock, Exit.then])
  exact bodyPost_ret (v := .agg #[.int .i64 5, .int .i64 x, .int .i64 (rn : Int), .int .i64 0, .int .i64 0, .string ⟨#[]⟩, .slice none 0 0]) (by simp [results, Tryz.results51, go_sem]; rw [hL]; rfl) rfl (aC 5 x (rn : Int) 0 0 ⟨#[]⟩ none [] 0 rfl rfl (by decide) (by decide) HW.out.2.1 HW.out.2.2.1 HW.out.2.2.2)
 ·have hst := Bo.store (P := Tryz.prog) (b := 0) [.int .i64 6, .int .i64 x, .int .i64 0, .int .i64 0, .int .i64 0, .string ⟨#[]⟩, .slice none 0 0] 0 0 T.2.1 rfl (by simp) (by intro u hu; simp only [List.mem_cons, List.not_mem_nil, or_false] at hu; rcases hu with h | h | h | h | h | h | h <;> (subst h; rfl))
  have RS := T.result [.int .i64 6, .int .i64 x, .int .i64 0, .int .i64 0, .int .i64 0, .string ⟨#[]⟩, .slice none 0 0] rfl
  have HW : Hid (_ ∧ _) := RS
  clear RS T
  go_wp2_with (rw [hst])
  (try go_simp)
  (try go_wp2_with fail)
  clear hst
  generalize ac v5 (w.heap.size + 1) 0 [.int .i64 6, .int .i64 x, .int .i64 0, .int .i64 0, .int .i64 0, .string ⟨#[]⟩, .slice none 0 0] = vz at *
  have hL := HW.out.1.load (P := Tryz.prog) (n := 7) rfl
  (try simp only [Exit.inBlock, Exit.then])
  exact bodyPost_ret (v := .agg #[.int .i64 6, .int .i64 x, .int .i64 0, .int .i64 0, .int .i64 0, .string ⟨#[]⟩, .slice none 0 0]) (by simp [results, Tryz.results51, go_sem]; rw [hL]; rfl) rfl (aC 6 x 0 0 0 ⟨#[]⟩ none [] 0 rfl rfl (by decide) (by decide) HW.out.2.1 HW.out.2.2.1 HW.out.2.2.2)
 ·have hst := Bo.store (P := Tryz.prog) (b := 0) [.int .i64 7, .int .i64 x, .int .i64 0, .int .i64 0, .int .i64 0, .string ⟨#[]⟩, .slice none 0 0] 0 0 T.2.1 rfl (by simp) (by intro u hu; simp only [List.mem_cons, List.not_mem_nil, or_false] at hu; rcases hu with h | h | h | h | h | h | h <;> (subst h; rfl))
  have RS := T.result [.int .i64 7, .int .i64 x, .int .i64 0, .int .i64 0, .int .i64 0, .string ⟨#[]⟩, .slice none 0 0] rfl
  have HW : Hid (_ ∧ _) := RS
  clear RS T
  go_wp2_with (rw [hst])
  (try go_simp)
  (try go_wp2_with fail)
  clear hst
  generalize ac v5 (w.heap.size + 1) 0 [.int .i64 7, .int .i64 x, .int .i64 0, .int .i64 0, .int .i64 0, .string ⟨#[]⟩, .slice none 0 0] = vz at *
  have hL := HW.out.1.load (P := Tryz.prog) (n := 7) rfl
  (try simp only [Exit.inBlock, Exit.then])
  exact bodyPost_ret (v := .agg #[.int .i64 7, .int .i64 x, .int .i64 0, .int .i64 0, .int .i64 0, .string ⟨#[]⟩, .slice none 0 0]) (by simp [results, Tryz.results51, go_sem]; rw [hL]; rfl) rfl (aC 7 x 0 0 0 ⟨#[]⟩ none [] 0 rfl rfl (by decide) (by decide) HW.out.2.1 HW.out.2.2.1 HW.out.2.2.2)
 ·have hst := Bo.store (P := Tryz.prog) (b := 0) [.int .i64 7, .int .i64 x, .int .i64 0, .int .i64 0, .int .i64 0, .string ⟨#[]⟩, .slice none 0 0] 0 0 T.2.1 rfl (by simp) (by intro u hu; simp only [List.mem_cons, List.not_mem_nil, or_false] at hu; rcases hu with h | h | h | h | h | h | h <;> (subst h; rfl))
  have RS := T.result [.int .i64 7, .int .i64 x, .int .i64 0, .int .i64 0, .int .i64 0, .string ⟨#[]⟩, .slice none 0 0] rfl
  have HW : Hid (_ ∧ _) := RS
  clear RS T
  go_wp2_with (rw [hst])
  (try go_simp)
  (try go_wp2_with fail)
  clear hst
  generalize ac v5 (w.heap.size + 1) 0 [.int .i64 7, .int .i64 x, .int .i64 0, .int .i64 0, .int .i64 0, .string ⟨#[]⟩, .slice none 0 0] = vz at *
  have hL := HW.out.1.load (P := Tryz.prog) (n := 7) rfl
  (try simp only [Exit.inBlock, Exit.then])
  exact bodyPost_ret (v := .agg #[.int .i64 7, .int .i64 x, .int .i64 0, .int .i64 0, .int .i64 0, .string ⟨#[]⟩, .slice none 0 0]) (by simp [results, Tryz.results51, go_sem]; rw [hL]; rfl) rfl (aC 7 x 0 0 0 ⟨#[]⟩ none [] 0 rfl rfl (by decide) (by decide) HW.out.2.1 HW.out.2.2.1 HW.out.2.2.2)
 ·have hst := Bo.store (P := Tryz.prog) (b := 0) [.int .i64 8, .int .i64 x, .int .i64 0, .int .i64 0, .int .i64 0, .string ⟨#[]⟩, .slice none 0 0] 0 0 T.2.1 rfl (by simp) (by intro u hu; simp only [List.mem_cons, List.not_mem_nil, or_false] at hu; rcases hu with h | h | h | h | h | h | h <;> (subst h; rfl))
  have RS := T.result [.int .i64 8, .int .i64 x, .int .i64 0, .int .i64 0, .int .i64 0, .string ⟨#[]⟩, .slice none 0 0] rfl
  have HW : Hid (_ ∧ _) := RS
  clear RS T
  go_wp2_with (rw [hst])
  (try go_simp)
  (try go_wp2_with fail)
  clear hst
  generalize ac v5 (w.heap.size + 1) 0 [.int .i64 8, .int .i64 x, .int .i64 0, .int .i64 0, .int .i64 0, .string ⟨#[]⟩, .slice none 0 0] = vz at *
  have hL := HW.out.1.load (P := Tryz.prog) (n := 7) rfl
  (try simp only [Exit.inBlock, Exit.then])
  exact bodyPost_ret (v := .agg #[.int .i64 8, .int .i64 x, .int .i64 0, .int .i64 0, .int .i64 0, .string ⟨#[]⟩, .slice none 0 0]) (by simp [results, Tryz.results51, go_sem]; rw [hL]; rfl) rfl (aC 8 x 0 0 0 ⟨#[]⟩ none [] 0 rfl rfl (by decide) (by decide) HW.out.2.1 HW.out.2.2.1 HW.out.2.2.2)
 ·have hst := Bo.store (P := Tryz.prog) (b := 0) [.int .i64 8, .int .i64 x, .int .i64 0, .int .i64 0, .int .i64 0, .string ⟨#[]⟩, .slice none 0 0] 0 0 T.2.1 rfl (by simp) (by intro u hu; simp only [List.mem_cons, List.not_mem_nil, or_false] at hu; rcases hu with h | h | h | h | h | h | h <;> (subst h; rfl))
  have RS := T.result [.int .i64 8, .int .i64 x, .int .i64 0, .int .i64 0, .int .i64 0, .string ⟨#[]⟩, .slice none 0 0] rfl
  have HW : Hid (_ ∧ _) := RS
  clear RS T
  go_wp2_with (rw [hst])
  (try go_simp)
  (try go_wp2_with fail)
  clear hst
  generalize ac v5 (w.heap.size + 1) 0 [.int .i64 8, .int .i64 x, .int .i64 0, .int .i64 0, .int .i64 0, .string ⟨#[]⟩, .slice none 0 0] = vz at *
  have hL := HW.out.1.load (P := Tryz.prog) (n := 7) rfl
  (try simp only [Exit.inBlock, Exit.then])
  exact bodyPost_ret (v := .agg #[.int .i64 8, .int .i64 x, .int .i64 0, .int .i64 0, .int .i64 0, .string ⟨#[]⟩, .slice none 0 0]) (by simp [results, Tryz.results51, go_sem]; rw [hL]; rfl) rfl (aC 8 x 0 0 0 ⟨#[]⟩ none [] 0 rfl rfl (by decide) (by decide) HW.out.2.1 HW.out.2.2.1 HW.out.2.2.2)
 ·go_wp2_with fail
  refine (af B p 20 v5 T.2.2.2.1).mono ?_
  rintro e v6 ⟨f, rfl, f0, -, fp, -, cc, bb⟩
  have fq := fp (by decide)
  replace T := T.call cc bb
  clear fp cc bb
  go_wp2_with fail
  refine (bI B p 3 v6 T.2.2.2.1 (by decide) (by decide)).mono ?_
  rintro e v7 ⟨s, rfl, hs, cc, bb⟩
  replace T := T.call cc bb
  clear cc bb
  have hst := Bo.store (P := Tryz.prog) (b := 0) [.int .i64 9, .int .i64 x, .int .i64 0, .int .i64 f, .int .i64 0, .string s, .slice none 0 0] 0 0 T.2.1 rfl (by simp) (by intro u hu; simp only [List.mem_cons, List.not_mem_nil, or_false] at hu; rcases hu with h | h | h | h | h | h | h <;> (subst h; rfl))
  have RS := T.result [.int .i64 9, .int .i64 x, .int .i64 0, .int .i64 f, .int .i64 0, .string s, .slice none 0 0] rfl
  have HW : Hid (_ ∧ _) := RS
  clear RS T
  go_wp2_with (rw [hst])
  (try go_simp)
  (try go_wp2_with fail)
  clear hst
  generalize ac v7 (w.heap.size + 1) 0 [.int .i64 9, .int .i64 x, .int .i64 0, .int .i64 f, .int .i64 0, .string s, .slice none 0 0] = vz at *
  have hL := HW.out.1.load (P := Tryz.prog) (n := 7) rfl
  (try simp only [Exit.inBlock, Exit.then])
  exact bodyPost_ret (v := .agg #[.int .i64 9, .int .i64 x, .int .i64 0, .int .i64 f, .int .i64 0, .string s, .slice none 0 0]) (by simp [results, Tryz.results51, go_sem]; rw [hL]; rfl) rfl (aC 9 x 0 f 0 s none [] 0 rfl rfl hs (by decide) HW.out.2.1 HW.out.2.2.1 HW.out.2.2.2)
 ·go_wp2_with fail
  refine (af B p 20 v5 T.2.2.2.1).mono ?_
  rintro e v6 ⟨f, rfl, f0, -, fp, -, cc, bb⟩
  have fq := fp (by decide)
  replace T := T.call cc bb
  clear fp cc bb
  go_wp2_with fail
  refine (bI B p 3 v6 T.2.2.2.1 (by decide) (by decide)).mono ?_
  rintro e v7 ⟨s, rfl, hs, cc, bb⟩
  replace T := T.call cc bb
  clear cc bb
  have hst := Bo.store (P := Tryz.prog) (b := 0) [.int .i64 9, .int .i64 x, .int .i64 0, .int .i64 f, .int .i64 0, .string s, .slice none 0 0] 0 0 T.2.1 rfl (by simp) (by intro u hu; simp only [List.mem_cons, List.not_mem_nil, or_false] at hu; rcases hu with h | h | h | h | h | h | h <;> (subst h; rfl))
  have RS := T.result [.int .i64 9, .int .i64 x, .int .i64 0, .int .i64 f, .int .i64 0, .string s, .slice none 0 0] rfl
  have HW : Hid (_ ∧ _) := RS
  clear RS T
  go_wp2_with (rw [hst])
  (try go_simp)
  (try go_wp2_with fail)
  clear hst
  generalize ac v7 (w.heap.size + 1) 0 [.int .i64 9, .int .i64 x, .int .i64 0, .int .i64 f, .int .i64 0, .string s, .slice none 0 0] = vz at *
  have hL := HW.out.1.load (P := Tryz.prog) (n := 7) rfl
  (try simp only [Exit.inBlock, Exit.then])
  exact bodyPost_ret (v := .agg #[.int .i64 9, .int .i64 x, .int .i64 0, .int .i64 f, .int .i64 0, .string s, .slice none 0 0]) (by simp [results, Tryz.results51, go_sem]; rw [hL]; rfl) rfl (aC 9 x 0 f 0 s none [] 0 rfl rfl hs (by decide) HW.out.2.1 HW.out.2.2.1 HW.out.2.2.2)
 ·go_wp2_with fail
  refine (af B p 2 v5 T.2.2.2.1).mono ?_
  rintro e v6 ⟨f, rfl, f0, -, fp, -, cc, bb⟩
  have fq := fp (by decide)
  replace T := T.call cc bb
  clear fp cc bb
  go_wp2_with fail
  refine (af B p 1 v6 T.2.2.2.1).mono ?_
  rintro e v7 ⟨g, rfl, g0, -, gp, -, cc, bb⟩
  have gq := gp (by decide)
  replace T := T.call cc bb
  clear gp cc bb
  have hw11 : IntKind.i64.wrap (11 + f) = 11 + f := Go.IntWalk.i64_in _ ⟨by omega, by omega⟩
  have hst := Bo.store (P := Tryz.prog) (b := 0) [.int .i64 (11 + f), .int .i64 0, .int .i64 0, .int .i64 g, .int .i64 0, .string ⟨#[]⟩, .slice none 0 0] 0 0 T.2.1 rfl (by simp) (by intro u hu; simp only [List.mem_cons, List.not_mem_nil, or_false] at hu; rcases hu with h | h | h | h | h | h | h <;> (subst h; rfl))
  have RS := T.result [.int .i64 (11 + f), .int .i64 0, .int .i64 0, .int .i64 g, .int .i64 0, .string ⟨#[]⟩, .slice none 0 0] rfl
  have HW : Hid (_ ∧ _) := RS
  clear RS T
  go_wp2_with (rw [hst])
  (try go_simp)
  (try go_wp2_with fail)
  clear hst
  generalize ac v7 (w.heap.size + 1) 0 [.int .i64 (11 + f), .int .i64 0, .int .i64 0, .int .i64 g, .int .i64 0, .string ⟨#[]⟩, .slice none 0 0] = vz at *
  have hL := HW.out.1.load (P := Tryz.prog) (n := 7) rfl
  (try simp only [Exit.inBlock, Exit.then])
  exact bodyPost_ret (v := .agg #[.int .i64 (11 + f), .int .i64 0, .int .i64 0, .int .i64 g, .int .i64 0, .string ⟨#[]⟩, .slice none 0 0]) (by simp [results, Tryz.results51, go_sem]; rw [hL]; rfl) rfl (aC (11 + f) 0 0 g 0 ⟨#[]⟩ none [] 0 rfl rfl (by decide) (by decide) HW.out.2.1 HW.out.2.2.1 HW.out.2.2.2)
 ·go_wp2_with fail
  refine (af B p 1 v5 T.2.2.2.1).mono ?_
  rintro e v6 ⟨f, rfl, f0, -, fp, -, cc, bb⟩
  have fq := fp (by decide)
  replace T := T.call cc bb
  clear fp cc bb
  go_wp2_with fail
  refine (af B p 1 v6 T.2.2.2.1).mono ?_
  rintro e v7 ⟨g, rfl, g0, -, gp, -, cc, bb⟩
  have gq := gp (by decide)
  replace T := T.call cc bb
  clear gp cc bb
  have hst := Bo.store (P := Tryz.prog) (b := 0) [.int .i64 13, .int .i64 0, .int .i64 0, .int .i64 f, .int .i64 g, .string ⟨#[]⟩, .slice none 0 0] 0 0 T.2.1 rfl (by simp) (by intro u hu; simp only [List.mem_cons, List.not_mem_nil, or_false] at hu; rcases hu with h | h | h | h | h | h | h <;> (subst h; rfl))
  have RS := T.result [.int .i64 13, .int .i64 0, .int .i64 0, .int .i64 f, .int .i64 g, .string ⟨#[]⟩, .slice none 0 0] rfl
  have HW : Hid (_ ∧ _) := RS
  clear RS T
  go_wp2_with (rw [hst])
  (try go_simp)
  (try go_wp2_with fail)
  clear hst
  generalize ac v7 (w.heap.size + 1) 0 [.int .i64 13, .int .i64 0, .int .i64 0, .int .i64 f, .int .i64 g, .string ⟨#[]⟩, .slice none 0 0] = vz at *
  have hL := HW.out.1.load (P := Tryz.prog) (n := 7) rfl
  (try simp only [Exit.inBlock, Exit.then])
  exact bodyPost_ret (v := .agg #[.int .i64 13, .int .i64 0, .int .i64 0, .int .i64 f, .int .i64 g, .string ⟨#[]⟩, .slice none 0 0]) (by simp [results, Tryz.results51, go_sem]; rw [hL]; rfl) rfl (aC 13 0 0 f g ⟨#[]⟩ none [] 0 rfl rfl (by decide) (by decide) HW.out.2.1 HW.out.2.2.1 HW.out.2.2.2)
 ·go_upto_region 44 with fail
  refine wp_region_held_drew (S := (fun _ => True)) (by kernel_rfl) ?_ (fun hHeld => ?_)
  ·trivial
  replace T := T.drew
  generalize v5.drew = vx at *
  (have hL := T.1.load (P := Tryz.prog) (n := 18) rfl)
  refine zTk 0 ?_
  refine zT2 2 ?_
  refine zTk 4 ?_
  refine zQ 1 fun K hK => ?_
  go_simp
  (try rw [hL]); (try go_simp)
  refine hK.out _ _ ?_ (fun hHeld => ?_)
  ·trivial
  clear hK K
  (try simp only [zA])
  refine zQ 5 fun K hK => ?_
  go_simp
  (clear hL); refine (dK B p lb nb rn vx T.2.2.2.1 (HX.out vx T.2.2.2.2.1) hrn4).mono ?_; rintro e vy hop; obtain ⟨tt9, tx9, rfl, hx9, hc9, hb9⟩ := hop; (have T9 := T.call hc9 hb9); (clear T hc9 hb9); (have T := T9); (clear T9); (have hst := Bo.store (P := Tryz.prog) (b := 0) [.int .i64 14, .int .i64 0, .int .i64 tt9, .int .i64 0, .int .i64 0, .string tx9, .slice none 0 0] 0 0 T.2.1 rfl (by simp) (by intro u hu; simp only [List.mem_cons, List.not_mem_nil, or_false] at hu; rcases hu with h | h | h | h | h | h | h <;> (subst h; rfl)))
  (try go_wp2_with fail)
  refine hK.out _ _ ?_ (fun hHeld => ?_)
  ·trivial
  clear hK K
  (try simp only [zA])
  refine zQ 6 fun K hK => ?_
  go_simp
  (try rw [hst]); (try go_simp)
  refine hK.out _ _ ?_ (fun hHeld => ?_)
  ·trivial
  clear hK K
  (try simp only [zA])
  refine wpAnyH_done (by kernel_rfl) ?_ _
  clear hst
  have RS := T.result [.int .i64 14, .int .i64 0, .int .i64 tt9, .int .i64 0, .int .i64 0, .string tx9, .slice none 0 0] rfl
  have HW : Hid (_ ∧ _) := RS
  clear RS T
  (try go_simp)
  (try go_wp2_with fail)
  generalize ac vy (w.heap.size + 1) 0 [.int .i64 14, .int .i64 0, .int .i64 tt9, .int .i64 0, .int .i64 0, .string tx9, .slice none 0 0] = vz at *
  have hL := HW.out.1.load (P := Tryz.prog) (n := 7) rfl
  (try simp only [Exit.inBlock, Exit.then])
  exact bodyPost_ret (v := .agg #[.int .i64 14, .int .i64 0, .int .i64 tt9, .int .i64 0, .int .i64 0, .string tx9, .slice none 0 0]) (by simp [results, Tryz.results51, go_sem]; rw [hL]; rfl) rfl (aC 14 0 tt9 0 0 tx9 none [] 0 rfl rfl hx9 (by decide) HW.out.2.1 HW.out.2.2.1 HW.out.2.2.2)
 ·go_wp2_with fail
  refine (af B p 1 v5 T.2.2.2.1).mono ?_
  rintro e v6 ⟨f, rfl, f0, -, fp, -, cc, bb⟩
  have fq := fp (by decide)
  replace T := T.call cc bb
  clear fp cc bb
  have hst := Bo.store (P := Tryz.prog) (b := 0) [.int .i64 10, .int .i64 0, .int .i64 0, .int .i64 f, .int .i64 0, .string ⟨#[]⟩, .slice none 0 0] 0 0 T.2.1 rfl (by simp) (by intro u hu; simp only [List.mem_cons, List.not_mem_nil, or_false] at hu; rcases hu with h | h | h | h | h | h | h <;> (subst h; rfl))
  have RS := T.result [.int .i64 10, .int .i64 0, .int .i64 0, .int .i64 f, .int .i64 0, .string ⟨#[]⟩, .slice none 0 0] rfl
  have HW : Hid (_ ∧ _) := RS
  clear RS T
  go_wp2_with (rw [hst])
  (try go_simp)
  (try go_wp2_with fail)
  clear hst
  generalize ac v6 (w.heap.size + 1) 0 [.int .i64 10, .int .i64 0, .int .i64 0, .int .i64 f, .int .i64 0, .string ⟨#[]⟩, .slice none 0 0] = vz at *
  have hL := HW.out.1.load (P := Tryz.prog) (n := 7) rfl
  (try simp only [Exit.inBlock, Exit.then])
  exact bodyPost_ret (v := .agg #[.int .i64 10, .int .i64 0, .int .i64 0, .int .i64 f, .int .i64 0, .string ⟨#[]⟩, .slice none 0 0]) (by simp [results, Tryz.results51, go_sem]; rw [hL]; rfl) rfl (aC 10 0 0 f 0 ⟨#[]⟩ none [] 0 rfl rfl (by decide) (by decide) HW.out.2.1 HW.out.2.2.1 HW.out.2.2.2)
 ·go_wp2_with fail
  refine (af B p 1 v5 T.2.2.2.1).mono ?_
  rintro e v6 ⟨f, rfl, f0, -, fp, -, cc, bb⟩
  have fq := fp (by decide)
  replace T := T.call cc bb
  clear fp cc bb
  have hst := Bo.store (P := Tryz.prog) (b := 0) [.int .i64 10, .int .i64 0, .int .i64 0, .int .i64 f, .int .i64 0, .string ⟨#[]⟩, .slice none 0 0] 0 0 T.2.1 rfl (by simp) (by intro u hu; simp only [List.mem_cons, List.not_mem_nil, or_false] at hu; rcases hu with h | h | h | h | h | h | h <;> (subst h; rfl))
  have RS := T.result [.int .i64 10, .int .i64 0, .int .i64 0, .int .i64 f, .int .i64 0, .string ⟨#[]⟩, .slice none 0 0] rfl
  have HW : Hid (_ ∧ _) := RS
  clear RS T
  go_wp2_with (rw [hst])
  (try go_simp)
  (try go_wp2_with fail)
  clear hst
  generalize ac v6 (w.heap.size + 1) 0 [.int .i64 10, .int .i64 0, .int .i64 0, .int .i64 f, .int .i64 0, .string ⟨#[]⟩, .slice none 0 0] = vz at *
  have hL := HW.out.1.load (P := Tryz.prog) (n := 7) rfl
  (try simp only [Exit.inBlock, Exit.then])
  exact bodyPost_ret (v := .agg #[.int .i64 10, .int .i64 0, .int .i64 0, .int .i64 f, .int .i64 0, .string ⟨#[]⟩, .slice none 0 0]) (by simp [results, Tryz.results51, go_sem]; rw [hL]; rfl) rfl (aC 10 0 0 f 0 ⟨#[]⟩ none [] 0 rfl rfl (by decide) (by decide) HW.out.2.1 HW.out.2.2.1 HW.out.2.2.2)
 ·go_wp2_with fail
  refine (af B p 1 v5 T.2.2.2.1).mono ?_
  rintro e v6 ⟨f, rfl, f0, -, fp, -, cc, bb⟩
  have fq := fp (by decide)
  replace T := T.call cc bb
  clear fp cc bb
  have hst := Bo.store (P := Tryz.prog) (b := 0) [.int .i64 10, .int .i64 0, .int .i64 0, .int .i64 f, .int .i64 0, .string ⟨#[]⟩, .slice none 0 0] 0 0 T.2.1 rfl (by simp) (by intro u hu; simp only [List.mem_cons, List.not_mem_nil, or_false] at hu; rcases hu with h | h | h | h | h | h | h <;> (subst h; rfl))
  have RS := T.result [.int .i64 10, .int .i64 0, .int .i64 0, .int .i64 f, .int .i64 0, .string ⟨#[]⟩, .slice none 0 0] rfl
  have HW : Hid (_ ∧ _) := RS
  clear RS T
  go_wp2_with (rw [hst])
  (try go_simp)
  (try go_wp2_with fail)
  clear hst
  generalize ac v6 (w.heap.size + 1) 0 [.int .i64 10, .int .i64 0, .int .i64 0, .int .i64 f, .int .i64 0, .string ⟨#[]⟩, .slice none 0 0] = vz at *
  have hL := HW.out.1.load (P := Tryz.prog) (n := 7) rfl
  (try simp only [Exit.inBlock, Exit.then])
  exact bodyPost_ret (v := .agg #[.int .i64 10, .int .i64 0, .int .i64 0, .int .i64 f, .int .i64 0, .string ⟨#[]⟩, .slice none 0 0]) (by simp [results, Tryz.results51, go_sem]; rw [hL]; rfl) rfl (aC 10 0 0 f 0 ⟨#[]⟩ none [] 0 rfl rfl (by decide) (by decide) HW.out.2.1 HW.out.2.2.1 HW.out.2.2.2)
 ·go_wp2_with fail
  refine (af B p 1 v5 T.2.2.2.1).mono ?_
  rintro e v6 ⟨f, rfl, f0, -, fp, -, cc, bb⟩
  have fq := fp (by decide)
  replace T := T.call cc bb
  clear fp cc bb
  have hst := Bo.store (P := Tryz.prog) (b := 0) [.int .i64 10, .int .i64 0, .int .i64 0, .int .i64 f, .int .i64 0, .string ⟨#[]⟩, .slice none 0 0] 0 0 T.2.1 rfl (by simp) (by intro u hu; simp only [List.mem_cons, List.not_mem_nil, or_false] at hu; rcases hu with h | h | h | h | h | h | h <;> (subst h; rfl))
  have RS := T.result [.int .i64 10, .int .i64 0, .int .i64 0, .int .i64 f, .int .i64 0, .string ⟨#[]⟩, .slice none 0 0] rfl
  have HW : Hid (_ ∧ _) := RS
  clear RS T
  go_wp2_with (rw [hst])
  (try go_simp)
  (try go_wp2_with fail)
  clear hst
  generalize ac v6 (w.heap.size + 1) 0 [.int .i64 10, .int .i64 0, .int .i64 0, .int .i64 f, .int .i64 0, .string ⟨#[]⟩, .slice none 0 0] = vz at *
  have hL := HW.out.1.load (P := Tryz.prog) (n := 7) rfl
  (try simp only [Exit.inBlock, Exit.then])
  exact bodyPost_ret (v := .agg #[.int .i64 10, .int .i64 0, .int .i64 0, .int .i64 f, .int .i64 0, .string ⟨#[]⟩, .slice none 0 0]) (by simp [results, Tryz.results51, go_sem]; rw [hL]; rfl) rfl (aC 10 0 0 f 0 ⟨#[]⟩ none [] 0 rfl rfl (by decide) (by decide) HW.out.2.1 HW.out.2.2.1 HW.out.2.2.2)

end Go.Proofs.YtddjiamollfplaaGreatDoor
