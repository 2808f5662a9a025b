/- NewWorld in the program. -/
import Derived.Test.YtddijpjgkifngaaGreatMN0
import Derived.Test.YtddijpjgkifngaaGreatMN40
namespace Go.Proofs.YtddijpjgkifngaaGreat
open Go.RowKit
set_option linter.unusedVariables false
set_option maxRecDepth 100000
set_option maxHeartbeats 16000000
theorem gw (w : World) (n : Nat) (hn : n ≤ maxLen) : (w.alloc (am n)).ownsRow w.heap.size 3 1 (.slice (some ⟨w.heap.size, 0, none⟩) n n) n ((List.range (n * 1)).map (itG fun _ => 0)) := by
 refine ⟨by simp, .inr ⟨w.heap.size, n, madeCells #[.int .i64 0] n, rfl, Nat.le_refl _, heap_alloc_new w _, Nat.le_refl _, hn, by rw [size_madeCells, Nat.mul_one], ?_⟩⟩
 rw [toList_madeCells_one, Nat.mul_one, List.take_of_length_le (by simp)]
 apply List.ext_getElem?
 intro i
 by_cases h : i < n
 ·simp [h, itG]
 ·rw [List.getElem?_eq_none (by simp; omega), List.getElem?_eq_none (by simp; omega)]
theorem NwO.far {w w' : World} {lo hi q lo' : Nat} {A : Array Value} {y : CfX} {n : Nat} {LB : Nat → Bool} (h : NwO w lo hi A y n LB) (hb : Btw q (q + 1) w w') (hq : q < lo) (hl : lo' ≤ lo) : NwO w' lo' w'.heap.size A y n LB := by
 obtain ⟨p, d, la, lc, ca, cc, na, nk, l1, l2, l3, rfl, hm, hn, ⟨q1, q2, q3, q4, q5⟩, h1, h2, h3, h4⟩ := h
 have hs := hb.2.2.2.1
 exact ⟨p, d, la, lc, ca, cc, na, nk, l1, l2, l3, rfl, hm, hn, ⟨by omega, q2, q3, by omega, Nat.le_refl _⟩, (h1.btw hb (.inr hq)).wide hl (Nat.le_refl _), h2.btw hb (.inr (by omega)), h3.btw hb (.inr (by omega)), (h4.btw hb (.inr (by omega))).wide (Nat.le_refl _) (by omega)⟩
attribute [-go_sem] loadCells storeCells in
theorem b9 (AC : Array Value) (y : CfX) (la : Option Addr) (n lc : Nat) (LB : Nat → Bool) (w : World) (hc : CfS w AC y) (hm : y.m ≤ 1048576) (hn : n ≤ 1048576) (hl : RwO w la n lc 1 (boG LB)) :
 Calls Tryz.prog 17 #[.agg AC, .slice la n lc] w fun e w' => ∃ A, e = .returned (.tuple #[.agg A, .bool (nwB y n LB)]) ∧ NwQ w' w.heap.size w'.heap.size A (nwO y n LB) ∧ Below w.heap.size w w' := by
 obtain ⟨p, d, rfl, -, hp⟩ := hc
 have CN : ∀ (v : World) (i : Nat), Calls Tryz.prog 61 #[.int .i64 (i : Int)] v fun e w' => e = .returned (.agg (nzA (i : Int))) ∧ Below v.heap.size v w' := fun v i => cR (i : Int) v
 by_cases h8 : n ≤ 8
 ·have hgt : ¬ (8 : Int) < (n : Int) := by omega
  have A0 := Below.nw w (.cells (cfV y p d) 45)
  have A1 := Below.nw (w.alloc (.cells (cfV y p d) 45)) (.cells #[.int .i64 0, .int .i64 0, .int .i64 0, .int .i64 0, .int .i64 0, .int .i64 0, .int .i64 0, .int .i64 0, .int .i64 0, .int .i64 0, .slice none 0 0, .slice none 0 0, .int .i64 0, .slice none 0 0, .slice none 0 0, .int .i64 0, .slice none 0 0, .slice none 0 0] 52)
  have C := (Bo.new w (cfV y p d) 45).below A1
  have R := Bo.new (w.alloc (.cells (cfV y p d) 45)) #[.int .i64 0, .int .i64 0, .int .i64 0, .int .i64 0, .int .i64 0, .int .i64 0, .int .i64 0, .int .i64 0, .int .i64 0, .int .i64 0, .slice none 0 0, .slice none 0 0, .int .i64 0, .slice none 0 0, .slice none 0 0, .int .i64 0, .slice none 0 0, .slice none 0 0] 52
  have B := A0
  replace B := B.trans (A1.mono B.size)
  simp only [World.size_alloc] at R
  clear A0 A1
  go_enter Tryz.func17, Tryz.ntmps17
  go_upto_region 1 with fail
  generalize ((w.alloc (.cells (cfV y p d) 45))).alloc (.cells #[.int .i64 0, .int .i64 0, .int .i64 0, .int .i64 0, .int .i64 0, .int .i64 0, .int .i64 0, .int .i64 0, .int .i64 0, .int .i64 0, .slice none 0 0, .slice none 0 0, .int .i64 0, .slice none 0 0, .slice none 0 0, .int .i64 0, .slice none 0 0, .slice none 0 0] 52) = v0 at *
  go_upto_region 3 with fail
  have hCv : w.heap.size < v0.heap.size := C.1
  have hRv : w.heap.size + 1 < v0.heap.size := R.1
  have SK : Hid (∀ w', Below v0.heap.size v0 w' → (loadCells ⟨w.heap.size, 0, none⟩ 11).run Tryz.prog w' = .ok #[.int .i64 y.dn, .int .i64 y.dd, .int .i64 y.li, .int .i64 y.le, .int .i64 y.pt, .int .i64 y.ag, .int .i64 y.ke, .int .i64 y.lg, .int .i64 y.s, .int .i64 y.g, .slice p y.m d] w') := fun w' hw => (C.below hw).load (P := Tryz.prog) (show (cfV y p d : Array Value).size = 11 from rfl)
  go_cut [6] (fun s6 wx => ∃ (j jc : Nat), s6 = .pointer (some ⟨j, 0, none⟩) ∧ Bo wx j #[.int .i64 y.dn, .int .i64 y.dd, .int .i64 y.li, .int .i64 y.le, .int .i64 y.pt, .int .i64 y.ag, .int .i64 y.ke, .int .i64 y.lg, .int .i64 y.s, .int .i64 y.g, .slice p y.m d, .slice la n lc, .int .i64 0, .slice (some ⟨jc, 0, none⟩) n n, .slice none 0 0, .int .i64 0, .slice none 0 0, .slice none 0 0] ∧ v0.heap.size ≤ j ∧ RwK wx j v0.heap.size 3 1 (some ⟨jc, 0, none⟩) n n (itG fun _ => 0) ∧ Below v0.heap.size v0 wx)
  case first => as_aux_lemma =>
   refine wp_region_held_drew (S := (fun w' => (loadCells ⟨w.heap.size, 0, none⟩ 11).run Tryz.prog w' = .ok #[.int .i64 y.dn, .int .i64 y.dd, .int .i64 y.li, .int .i64 y.le, .int .i64 y.pt, .int .i64 y.ag, .int .i64 y.ke, .int .i64 y.lg, .int .i64 y.s, .int .i64 y.g, .slice p y.m d] w')) (by kernel_rfl) ?_ (fun hHeld => ?_)
   ·first | exact SK.out _ XB | exact SK.out _ zD | exact SK.out _ XF
   have XB : Below v0.heap.size v0 v0.drew := Below.drew (Below.refl _ _)
   generalize v0.drew = vx at *
   refine zT4 0 ?_
   refine wpAnyH_ready (rs := [4, 6]) (by kernel_rfl) (by simp) ?_
   refine (zCc (fun K hK => ?_) (zR fun K hK => ?_))
   ·go_simp
    (try rw [de n (by omega) vx]); (try go_simp); (have NL := Below.nw vx (am n)); (have hgv : v0.heap.size ≤ vx.heap.size := XB.size); (have Q9 : Rwo (vx.alloc (am n)) v0.heap.size (vx.alloc (am n)).heap.size 3 1 (some ⟨vx.heap.size, 0, none⟩) n n (itG fun _ => 0) := (bt (gw vx n (by unfold maxLen; omega))).low hgv); (replace XB := XB.trans (NL.mono XB.size)); (clear NL); (generalize vx.alloc (am n) = vy at *); (generalize vx.heap.size = jc at *); (generalize vy = vx at *)
    refine hK.out _ _ ?_ (fun hHeld => ?_)
    ·first | exact SK.out _ XB | exact SK.out _ zD | exact SK.out _ XF
    clear hK K
    (try simp only [zA])
    refine wpAnyH_take (i := 5) (v := ?_) (by rw [List.getElem?_toArray]; rfl) (by kernel_rfl) (by kernel_rfl) (by kernel_rfl) (by intro _ _ _ h; exact h) (Or.inl ⟨by rfl, ?_⟩) (by assumption) ?_
    rotate_left
    ·(intro w hSw; refine bn 52 #[(0, .tmp 12), (1, .tmp 13), (3, .tmp 16)] [(0, .agg #[.int .i64 y.dn, .int .i64 y.dd, .int .i64 y.li, .int .i64 y.le, .int .i64 y.pt, .int .i64 y.ag, .int .i64 y.ke, .int .i64 y.lg, .int .i64 y.s, .int .i64 y.g, .slice p y.m d]), (1, .slice la n lc), (3, .slice (some ⟨jc, 0, none⟩) n n)] #[.int .i64 y.dn, .int .i64 y.dd, .int .i64 y.li, .int .i64 y.le, .int .i64 y.pt, .int .i64 y.ag, .int .i64 y.ke, .int .i64 y.lg, .int .i64 y.s, .int .i64 y.g, .slice p y.m d, .slice la n lc, .int .i64 0, .slice (some ⟨jc, 0, none⟩) n n, .slice none 0 0, .int .i64 0, .slice none 0 0, .slice none 0 0] (fI y p la (some ⟨jc, 0, none⟩) d n lc n) ?_ ?_ <;> rfl)
    (try simp only [zA])
    refine zQ 6 fun K hK => ?_
    go_simp
    (have Z := Bo.new vx (#[.int .i64 0, .int .i64 0, .int .i64 0, .int .i64 0, .int .i64 0, .int .i64 0, .int .i64 0, .int .i64 0, .int .i64 0, .int .i64 0, .slice none 0 0, .slice none 0 0, .int .i64 0, .slice none 0 0, .slice none 0 0, .int .i64 0, .slice none 0 0, .slice none 0 0]) 52); (have NL := Below.nw vx (.cells (#[.int .i64 0, .int .i64 0, .int .i64 0, .int .i64 0, .int .i64 0, .int .i64 0, .int .i64 0, .int .i64 0, .int .i64 0, .int .i64 0, .slice none 0 0, .slice none 0 0, .int .i64 0, .slice none 0 0, .slice none 0 0, .int .i64 0, .slice none 0 0, .slice none 0 0]) 52)); (have hzv : v0.heap.size ≤ vx.heap.size := XB.size); (have K9 : RwK (vx.alloc (.cells (#[.int .i64 0, .int .i64 0, .int .i64 0, .int .i64 0, .int .i64 0, .int .i64 0, .int .i64 0, .int .i64 0, .int .i64 0, .int .i64 0, .slice none 0 0, .slice none 0 0, .int .i64 0, .slice none 0 0, .slice none 0 0, .int .i64 0, .slice none 0 0, .slice none 0 0]) 52)) vx.heap.size v0.heap.size 3 1 (some ⟨jc, 0, none⟩) n n (itG fun _ => 0) := RwK.below ⟨Q9, fun g hg => by (have q := (Q9.lt hg).2.2); omega⟩ NL); (clear Q9); (replace XB := XB.trans (NL.mono XB.size)); (clear NL); (generalize vx.alloc (.cells (#[.int .i64 0, .int .i64 0, .int .i64 0, .int .i64 0, .int .i64 0, .int .i64 0, .int .i64 0, .int .i64 0, .int .i64 0, .int .i64 0, .slice none 0 0, .slice none 0 0, .int .i64 0, .slice none 0 0, .slice none 0 0, .int .i64 0, .slice none 0 0, .slice none 0 0]) 52) = vy at *); (generalize vx.heap.size = jz at *); (generalize vy = vx at *); (have hst : (storeCells ⟨jz, 0, none⟩ ([.int .i64 y.dn, .int .i64 y.dd, .int .i64 y.li, .int .i64 y.le, .int .i64 y.pt, .int .i64 y.ag, .int .i64 y.ke, .int .i64 y.lg, .int .i64 y.s, .int .i64 y.g, .slice p y.m d, .slice la n lc, .int .i64 0, .slice (some ⟨jc, 0, none⟩) n n, .slice none 0 0, .int .i64 0, .slice none 0 0, .slice none 0 0])).run Tryz.prog vx = .ok () (ah vx jz 0 [.int .i64 y.dn, .int .i64 y.dd, .int .i64 y.li, .int .i64 y.le, .int .i64 y.pt, .int .i64 y.ag, .int .i64 y.ke, .int .i64 y.lg, .int .i64 y.s, .int .i64 y.g, .slice p y.m d, .slice la n lc, .int .i64 0, .slice (some ⟨jc, 0, none⟩) n n, .slice none 0 0, .int .i64 0, .slice none 0 0, .slice none 0 0]) := Bo.store (P := Tryz.prog) (b := 0) [.int .i64 y.dn, .int .i64 y.dd, .int .i64 y.li, .int .i64 y.le, .int .i64 y.pt, .int .i64 y.ag, .int .i64 y.ke, .int .i64 y.lg, .int .i64 y.s, .int .i64 y.g, .slice p y.m d, .slice la n lc, .int .i64 0, .slice (some ⟨jc, 0, none⟩) n n, .slice none 0 0, .int .i64 0, .slice none 0 0, .slice none 0 0] 0 0 Z rfl (show 0 + 18 ≤ 18 by decide) (List.forall_mem_cons.2 ⟨rfl, (List.forall_mem_cons.2 ⟨rfl, (List.forall_mem_cons.2 ⟨rfl, (List.forall_mem_cons.2 ⟨rfl, (List.forall_mem_cons.2 ⟨rfl, (List.forall_mem_cons.2 ⟨rfl, (List.forall_mem_cons.2 ⟨rfl, (List.forall_mem_cons.2 ⟨rfl, (List.forall_mem_cons.2 ⟨rfl, (List.forall_mem_cons.2 ⟨rfl, (List.forall_mem_cons.2 ⟨rfl, (List.forall_mem_cons.2 ⟨rfl, (List.forall_mem_cons.2 ⟨rfl, (List.forall_mem_cons.2 ⟨rfl, (List.forall_mem_cons.2 ⟨rfl, (List.forall_mem_cons.2 ⟨rfl, (List.forall_mem_cons.2 ⟨rfl, (List.forall_mem_cons.2 ⟨rfl, fun _ h => nomatch h⟩)⟩)⟩)⟩)⟩)⟩)⟩)⟩)⟩)⟩)⟩)⟩)⟩)⟩)⟩)⟩)⟩)⟩)); (have ZF : Bo (ah vx jz 0 [.int .i64 y.dn, .int .i64 y.dd, .int .i64 y.li, .int .i64 y.le, .int .i64 y.pt, .int .i64 y.ag, .int .i64 y.ke, .int .i64 y.lg, .int .i64 y.s, .int .i64 y.g, .slice p y.m d, .slice la n lc, .int .i64 0, .slice (some ⟨jc, 0, none⟩) n n, .slice none 0 0, .int .i64 0, .slice none 0 0, .slice none 0 0]) jz #[.int .i64 y.dn, .int .i64 y.dd, .int .i64 y.li, .int .i64 y.le, .int .i64 y.pt, .int .i64 y.ag, .int .i64 y.ke, .int .i64 y.lg, .int .i64 y.s, .int .i64 y.g, .slice p y.m d, .slice la n lc, .int .i64 0, .slice (some ⟨jc, 0, none⟩) n n, .slice none 0 0, .int .i64 0, .slice none 0 0, .slice none 0 0] := Z.putW (U := #[.int .i64 y.dn, .int .i64 y.dd, .int .i64 y.li, .int .i64 y.le, .int .i64 y.pt, .int .i64 y.ag, .int .i64 y.ke, .int .i64 y.lg, .int .i64 y.s, .int .i64 y.g, .slice p y.m d, .slice la n lc, .int .i64 0, .slice (some ⟨jc, 0, none⟩) n n, .slice none 0 0, .int .i64 0, .slice none 0 0, .slice none 0 0]) rfl); (have XF : Below v0.heap.size v0 (ah vx jz 0 [.int .i64 y.dn, .int .i64 y.dd, .int .i64 y.li, .int .i64 y.le, .int .i64 y.pt, .int .i64 y.ag, .int .i64 y.ke, .int .i64 y.lg, .int .i64 y.s, .int .i64 y.g, .slice p y.m d, .slice la n lc, .int .i64 0, .slice (some ⟨jc, 0, none⟩) n n, .slice none 0 0, .int .i64 0, .slice none 0 0, .slice none 0 0]) := ai (k := jz) [.int .i64 y.dn, .int .i64 y.dd, .int .i64 y.li, .int .i64 y.le, .int .i64 y.pt, .int .i64 y.ag, .int .i64 y.ke, .int .i64 y.lg, .int .i64 y.s, .int .i64 y.g, .slice p y.m d, .slice la n lc, .int .i64 0, .slice (some ⟨jc, 0, none⟩) n n, .slice none 0 0, .int .i64 0, .slice none 0 0, .slice none 0 0] v0 vx 0 XB hzv); (have KF : RwK (ah vx jz 0 [.int .i64 y.dn, .int .i64 y.dd, .int .i64 y.li, .int .i64 y.le, .int .i64 y.pt, .int .i64 y.ag, .int .i64 y.ke, .int .i64 y.lg, .int .i64 y.s, .int .i64 y.g, .slice p y.m d, .slice la n lc, .int .i64 0, .slice (some ⟨jc, 0, none⟩) n n, .slice none 0 0, .int .i64 0, .slice none 0 0, .slice none 0 0]) jz v0.heap.size 3 1 (some ⟨jc, 0, none⟩) n n (itG fun _ => 0) := K9.put (af [.int .i64 y.dn, .int .i64 y.dd, .int .i64 y.li, .int .i64 y.le, .int .i64 y.pt, .int .i64 y.ag, .int .i64 y.ke, .int .i64 y.lg, .int .i64 y.s, .int .i64 y.g, .slice p y.m d, .slice la n lc, .int .i64 0, .slice (some ⟨jc, 0, none⟩) n n, .slice none 0 0, .int .i64 0, .slice none 0 0, .slice none 0 0] vx 0 jz)); (generalize ah vx jz 0 [.int .i64 y.dn, .int .i64 y.dd, .int .i64 y.li, .int .i64 y.le, .int .i64 y.pt, .int .i64 y.ag, .int .i64 y.ke, .int .i64 y.lg, .int .i64 y.s, .int .i64 y.g, .slice p y.m d, .slice la n lc, .int .i64 0, .slice (some ⟨jc, 0, none⟩) n n, .slice none 0 0, .int .i64 0, .slice none 0 0, .slice none 0 0] = vf at *)
    refine hK.out _ _ ?_ (fun hHeld => ?_)
    ·first | exact SK.out _ XB | exact SK.out _ zD | exact SK.out _ XF
    clear hK K
    (try simp only [zA])
    refine zQ 7 fun K hK => ?_
    go_simp
    refine hK.out _ _ ?_ (fun hHeld => ?_)
    ·first | exact SK.out _ XB | exact SK.out _ zD | exact SK.out _ XF
    clear hK K
    (try simp only [zA])
    refine wpAnyH_done (by kernel_rfl) ?_ _
    go_wp2_with (rw [hst])
    go_meet
    case rel => exact ⟨jz, jc, rfl, ZF, hzv, KF, XF⟩
   ·go_simp
    (have Z := Bo.new vx (#[.int .i64 0, .int .i64 0, .int .i64 0, .int .i64 0, .int .i64 0, .int .i64 0, .int .i64 0, .int .i64 0, .int .i64 0, .int .i64 0, .slice none 0 0, .slice none 0 0, .int .i64 0, .slice none 0 0, .slice none 0 0, .int .i64 0, .slice none 0 0, .slice none 0 0]) 52); (have NL := Below.nw vx (.cells (#[.int .i64 0, .int .i64 0, .int .i64 0, .int .i64 0, .int .i64 0, .int .i64 0, .int .i64 0, .int .i64 0, .int .i64 0, .int .i64 0, .slice none 0 0, .slice none 0 0, .int .i64 0, .slice none 0 0, .slice none 0 0, .int .i64 0, .slice none 0 0, .slice none 0 0]) 52)); (have hzv : v0.heap.size ≤ vx.heap.size := XB.size); (replace XB := XB.trans (NL.mono XB.size)); (clear NL); (generalize vx.alloc (.cells (#[.int .i64 0, .int .i64 0, .int .i64 0, .int .i64 0, .int .i64 0, .int .i64 0, .int .i64 0, .int .i64 0, .int .i64 0, .int .i64 0, .slice none 0 0, .slice none 0 0, .int .i64 0, .slice none 0 0, .slice none 0 0, .int .i64 0, .slice none 0 0, .slice none 0 0]) 52) = vy at *); (generalize vx.heap.size = jz at *); (generalize vy = vx at *)
    refine hK.out _ _ ?_ (fun hHeld => ?_)
    ·first | exact SK.out _ XB | exact SK.out _ zD | exact SK.out _ XF
    clear hK K
    (try simp only [zA])
    refine zQ 4 fun K hK => ?_
    go_simp
    (try rw [de n (by omega) vx]); (try go_simp); (have NL := Below.nw vx (am n)); (have hgv : v0.heap.size ≤ vx.heap.size := XB.size); (have Q9 : Rwo (vx.alloc (am n)) v0.heap.size (vx.alloc (am n)).heap.size 3 1 (some ⟨vx.heap.size, 0, none⟩) n n (itG fun _ => 0) := (bt (gw vx n (by unfold maxLen; omega))).low hgv); (have K9 : RwK (vx.alloc (am n)) jz v0.heap.size 3 1 (some ⟨vx.heap.size, 0, none⟩) n n (itG fun _ => 0) := ⟨Q9, fun g hg => by (have q1 := Z.1); (simp [Value.ownBlock] at hg); omega⟩); (replace Z := Z.below NL); (clear Q9); (replace XB := XB.trans (NL.mono XB.size)); (clear NL); (generalize vx.alloc (am n) = vy at *); (generalize vx.heap.size = jc at *); (generalize vy = vx at *); (have hst : (storeCells ⟨jz, 0, none⟩ ([.int .i64 y.dn, .int .i64 y.dd, .int .i64 y.li, .int .i64 y.le, .int .i64 y.pt, .int .i64 y.ag, .int .i64 y.ke, .int .i64 y.lg, .int .i64 y.s, .int .i64 y.g, .slice p y.m d, .slice la n lc, .int .i64 0, .slice (some ⟨jc, 0, none⟩) n n, .slice none 0 0, .int .i64 0, .slice none 0 0, .slice none 0 0])).run Tryz.prog vx = .ok () (ah vx jz 0 [.int .i64 y.dn, .int .i64 y.dd, .int .i64 y.li, .int .i64 y.le, .int .i64 y.pt, .int .i64 y.ag, .int .i64 y.ke, .int .i64 y.lg, .int .i64 y.s, .int .i64 y.g, .slice p y.m d, .slice la n lc, .int .i64 0, .slice (some ⟨jc, 0, none⟩) n n, .slice none 0 0, .int .i64 0, .slice none 0 0, .slice none 0 0]) := Bo.store (P := Tryz.prog) (b := 0) [.int .i64 y.dn, .int .i64 y.dd, .int .i64 y.li, .int .i64 y.le, .int .i64 y.pt, .int .i64 y.ag, .int .i64 y.ke, .int .i64 y.lg, .int .i64 y.s, .int .i64 y.g, .slice p y.m d, .slice la n lc, .int .i64 0, .slice (some ⟨jc, 0, none⟩) n n, .slice none 0 0, .int .i64 0, .slice none 0 0, .slice none 0 0] 0 0 Z rfl (show 0 + 18 ≤ 18 by decide) (List.forall_mem_cons.2 ⟨rfl, (List.forall_mem_cons.2 ⟨rfl, (List.forall_mem_cons.2 ⟨rfl, (List.forall_mem_cons.2 ⟨rfl, (List.forall_mem_cons.2 ⟨rfl, (List.forall_mem_cons.2 ⟨rfl, (List.forall_mem_cons.2 ⟨rfl, (List.forall_mem_cons.2 ⟨rfl, (List.forall_mem_cons.2 ⟨rfl, (List.forall_mem_cons.2 ⟨rfl, (List.forall_mem_cons.2 ⟨rfl, (List.forall_mem_cons.2 ⟨rfl, (List.forall_mem_cons.2 ⟨rfl, (List.forall_mem_cons.2 ⟨rfl, (List.forall_mem_cons.2 ⟨rfl, (List.forall_mem_cons.2 ⟨rfl, (List.forall_mem_cons.2 ⟨rfl, (List.forall_mem_cons.2 ⟨rfl, fun _ h => nomatch h⟩)⟩)⟩)⟩)⟩)⟩)⟩)⟩)⟩)⟩)⟩)⟩)⟩)⟩)⟩)⟩)⟩)⟩)); (have ZF : Bo (ah vx jz 0 [.int .i64 y.dn, .int .i64 y.dd, .int .i64 y.li, .int .i64 y.le, .int .i64 y.pt, .int .i64 y.ag, .int .i64 y.ke, .int .i64 y.lg, .int .i64 y.s, .int .i64 y.g, .slice p y.m d, .slice la n lc, .int .i64 0, .slice (some ⟨jc, 0, none⟩) n n, .slice none 0 0, .int .i64 0, .slice none 0 0, .slice none 0 0]) jz #[.int .i64 y.dn, .int .i64 y.dd, .int .i64 y.li, .int .i64 y.le, .int .i64 y.pt, .int .i64 y.ag, .int .i64 y.ke, .int .i64 y.lg, .int .i64 y.s, .int .i64 y.g, .slice p y.m d, .slice la n lc, .int .i64 0, .slice (some ⟨jc, 0, none⟩) n n, .slice none 0 0, .int .i64 0, .slice none 0 0, .slice none 0 0] := Z.putW (U := #[.int .i64 y.dn, .int .i64 y.dd, .int .i64 y.li, .int .i64 y.le, .int .i64 y.pt, .int .i64 y.ag, .int .i64 y.ke, .int .i64 y.lg, .int .i64 y.s, .int .i64 y.g, .slice p y.m d, .slice la n lc, .int .i64 0, .slice (some ⟨jc, 0, none⟩) n n, .slice none 0 0, .int .i64 0, .slice none 0 0, .slice none 0 0]) rfl); (have XF : Below v0.heap.size v0 (ah vx jz 0 [.int .i64 y.dn, .int .i64 y.dd, .int .i64 y.li, .int .i64 y.le, .int .i64 y.pt, .int .i64 y.ag, .int .i64 y.ke, .int .i64 y.lg, .int .i64 y.s, .int .i64 y.g, .slice p y.m d, .slice la n lc, .int .i64 0, .slice (some ⟨jc, 0, none⟩) n n, .slice none 0 0, .int .i64 0, .slice none 0 0, .slice none 0 0]) := ai (k := jz) [.int .i64 y.dn, .int .i64 y.dd, .int .i64 y.li, .int .i64 y.le, .int .i64 y.pt, .int .i64 y.ag, .int .i64 y.ke, .int .i64 y.lg, .int .i64 y.s, .int .i64 y.g, .slice p y.m d, .slice la n lc, .int .i64 0, .slice (some ⟨jc, 0, none⟩) n n, .slice none 0 0, .int .i64 0, .slice none 0 0, .slice none 0 0] v0 vx 0 XB hzv); (have KF : RwK (ah vx jz 0 [.int .i64 y.dn, .int .i64 y.dd, .int .i64 y.li, .int .i64 y.le, .int .i64 y.pt, .int .i64 y.ag, .int .i64 y.ke, .int .i64 y.lg, .int .i64 y.s, .int .i64 y.g, .slice p y.m d, .slice la n lc, .int .i64 0, .slice (some ⟨jc, 0, none⟩) n n, .slice none 0 0, .int .i64 0, .slice none 0 0, .slice none 0 0]) jz v0.heap.size 3 1 (some ⟨jc, 0, none⟩) n n (itG fun _ => 0) := K9.put (af [.int .i64 y.dn, .int .i64 y.dd, .int .i64 y.li, .int .i64 y.le, .int .i64 y.pt, .int .i64 y.ag, .int .i64 y.ke, .int .i64 y.lg, .int .i64 y.s, .int .i64 y.g, .slice p y.m d, .slice la n lc, .int .i64 0, .slice (some ⟨jc, 0, none⟩) n n, .slice none 0 0, .int .i64 0, .slice none 0 0, .slice none 0 0] vx 0 jz)); (generalize ah vx jz 0 [.int .i64 y.dn, .int .i64 y.dd, .int .i64 y.li, .int .i64 y.le, .int .i64 y.pt, .int .i64 y.ag, .int .i64 y.ke, .int .i64 y.lg, .int .i64 y.s, .int .i64 y.g, .slice p y.m d, .slice la n lc, .int .i64 0, .slice (some ⟨jc, 0, none⟩) n n, .slice none 0 0, .int .i64 0, .slice none 0 0, .slice none 0 0] = vf at *)
    refine hK.out _ _ ?_ (fun hHeld => ?_)
    ·first | exact SK.out _ XB | exact SK.out _ zD | exact SK.out _ XF
    clear hK K
    (try simp only [zA])
    refine wpAnyH_take (i := 5) (v := ?_) (by rw [List.getElem?_toArray]; rfl) (by kernel_rfl) (by kernel_rfl) (by kernel_rfl) (by intro _ _ _ h; exact h) (Or.inl ⟨by rfl, ?_⟩) (by assumption) ?_
    rotate_left
    ·(intro w hSw; refine bn 52 #[(0, .tmp 12), (1, .tmp 13), (3, .tmp 16)] [(0, .agg #[.int .i64 y.dn, .int .i64 y.dd, .int .i64 y.li, .int .i64 y.le, .int .i64 y.pt, .int .i64 y.ag, .int .i64 y.ke, .int .i64 y.lg, .int .i64 y.s, .int .i64 y.g, .slice p y.m d]), (1, .slice la n lc), (3, .slice (some ⟨jc, 0, none⟩) n n)] #[.int .i64 y.dn, .int .i64 y.dd, .int .i64 y.li, .int .i64 y.le, .int .i64 y.pt, .int .i64 y.ag, .int .i64 y.ke, .int .i64 y.lg, .int .i64 y.s, .int .i64 y.g, .slice p y.m d, .slice la n lc, .int .i64 0, .slice (some ⟨jc, 0, none⟩) n n, .slice none 0 0, .int .i64 0, .slice none 0 0, .slice none 0 0] (fI y p la (some ⟨jc, 0, none⟩) d n lc n) ?_ ?_ <;> rfl)
    (try simp only [zA])
    refine zQ 7 fun K hK => ?_
    go_simp
    refine hK.out _ _ ?_ (fun hHeld => ?_)
    ·first | exact SK.out _ XB | exact SK.out _ zD | exact SK.out _ XF
    clear hK K
    (try simp only [zA])
    refine wpAnyH_done (by kernel_rfl) ?_ _
    go_wp2_with (rw [hst])
    go_meet
    case rel => exact ⟨jz, jc, rfl, ZF, hzv, KF, XF⟩
  case rest =>
  obtain ⟨k, jc, rfl, O, hk, PI, hb⟩ := hcut
  clear SK C hgt
  generalize wc = u at *
  have hbs := hb.size
  replace PI : RwK u k (w.heap.size + 2) 3 1 (some ⟨jc, 0, none⟩) n n (itG fun _ => 0) := ⟨PI.1.wide (by omega) (Nat.le_refl _), PI.2⟩
  replace R := R.below hb
  replace B := B.trans (hb.mono B.size)
  have hkk : w.heap.size + 1 < k := by omega
  clear hb
  have PN := dP u k (w.heap.size + 2) 98 16 nzF
  go_wp2_with fail
  go_loopw [20] (fun i wr => ∃ (r : Nat) (na : Option Addr) (nk : Nat), r ≤ n ∧ i = .int .i64 (r : Int) ∧ Bo wr (w.heap.size + 1) #[.int .i64 0, .int .i64 0, .int .i64 0, .int .i64 0, .int .i64 0, .int .i64 0, .int .i64 0, .int .i64 0, .int .i64 0, .int .i64 0, .slice none 0 0, .slice none 0 0, .int .i64 0, .slice none 0 0, .slice none 0 0, .int .i64 0, .slice none 0 0, .slice none 0 0] ∧ Bo wr k #[.int .i64 y.dn, .int .i64 y.dd, .int .i64 y.li, .int .i64 y.le, .int .i64 y.pt, .int .i64 y.ag, .int .i64 y.ke, .int .i64 y.lg, .int .i64 y.s, .int .i64 y.g, .slice p y.m d, .slice la n lc, .int .i64 0, .slice (some ⟨jc, 0, none⟩) n n, .slice na r nk, .int .i64 0, .slice none 0 0, .slice none 0 0] ∧ RwK wr k (w.heap.size + 2) 3 1 (some ⟨jc, 0, none⟩) n n (itG fun _ => 0) ∧ RwK wr k (w.heap.size + 2) 98 16 na r nk nzF ∧ Below w.heap.size w wr) (fun i _ => n - (intOf i).toNat)
  case atStart => exact ⟨0, none, 0, Nat.zero_le _, rfl, R, O, PI, PN, B⟩
  case round =>
   clear R O PI PN B hbs
   obtain ⟨r, na, nk, hr, rfl, R, O, PI, PN, B⟩ := hrel
   by_cases hlt : r < n
   ·have hli : (r : Int) < (n : Int) := by omega
    replace CN := fun v => CN v r
    go_upto_region 7 with fail
    refine wp_region_held_drew (S := (fun _ => True)) (by kernel_rfl) ?_ (fun hHeld => ?_)
    ·trivial
    have XB : Below wr.heap.size wr wr.drew := Below.drew (Below.refl _ _)
    generalize wr.drew = vx at *
    have hcl : vx.cell? ⟨k, 14, none⟩ = some (.slice na r nk) := (O.below XB).cell rfl
    have hns : (nzA (r : Int)).size = 16 := rfl
    have hfo := iN (r : Int)
    refine zTk 0 ?_
    refine zTk 2 ?_
    refine wpAnyH_ready (rs := [1, 3]) (by kernel_rfl) (by simp) ?_
    refine (zCc (fun K hK => ?_) (zR fun K hK => ?_))
    ·go_simp
     refine hK.out _ _ ?_ (fun hHeld => ?_)
     ·trivial
     clear hK K
     (try simp only [zA])
     refine zQ 3 fun K hK => ?_
     go_simp
     refine (CN vx).mono ?_; rintro ee vs ⟨rfl, hbl⟩; (replace XB := XB.trans (hbl.mono XB.size)); (clear hbl); (generalize vs = vx at *); (have hcl : vx.cell? ⟨k, 14, none⟩ = some (.slice na r nk) := (O.below XB).cell rfl)
     (try go_wp2_with fail)
     refine hK.out _ _ ?_ (fun hHeld => ?_)
     ·trivial
     clear hK K
     (try simp only [zA])
     refine zQ 4 fun K hK => ?_
     go_simp
     (have XA := XB.trans ((Below.nw vx (.cells (nzA (r : Int)) 98)).mono XB.size)); (have hcm : (vx.alloc (.cells (nzA (r : Int)) 98)).cell? ⟨k, 14, none⟩ = some (.slice na r nk) := (O.below XA).cell rfl)
     refine hK.out _ _ ?_ (fun hHeld => ?_)
     ·trivial
     clear hK K
     (try simp only [zA])
     refine zQ 5 fun K hK => ?_
     (have PX := PN.below XB); (have hkx : k < vx.heap.size := Nat.lt_of_lt_of_le O.1 XB.size); (have hsx : w.heap.size + 2 ≤ vx.heap.size := by (have q := XB.size); (have q2 := O.1); omega); (obtain ⟨na2, nk2, w9, hr9, PN9, hg9⟩ := aV vx 46 k (w.heap.size + 2) r na nk PX (by omega) hsx hkx); (refine aW rfl _ _ 46 rfl (.slice na r nk) (.slice (some ⟨vx.heap.size, 0, none⟩) 1 1) rfl rfl ⟨_, w9, hr9, ?_⟩); (have O9 := PX.bo hg9 (O.below XB) (.inl rfl)); (have R9 := PX.bo hg9 (R.below XB) (.inr (by omega))); (have PI9 := (PI.below XB).kept PX (by decide) hg9); (have B9 := (B.trans (XB.mono B.size)).trans (PX.bel hg9 (B := w.heap.size) (by omega) (by omega))); (have hst := Bo.store (P := Tryz.prog) (b := 14) [.slice na2 (r + 1) nk2] 14 0 O9 rfl (show 14 + 1 ≤ 18 by decide) (List.forall_mem_cons.2 ⟨rfl, fun _ h => nomatch h⟩)); (have O10 : Bo (ah w9 k 14 [.slice na2 (r + 1) nk2]) k #[.int .i64 y.dn, .int .i64 y.dd, .int .i64 y.li, .int .i64 y.le, .int .i64 y.pt, .int .i64 y.ag, .int .i64 y.ke, .int .i64 y.lg, .int .i64 y.s, .int .i64 y.g, .slice p y.m d, .slice la n lc, .int .i64 0, .slice (some ⟨jc, 0, none⟩) n n, .slice na2 (r + 1) nk2, .int .i64 0, .slice none 0 0, .slice none 0 0] := Bo.put [.slice na2 (r + 1) nk2] 14 O9); (have hb9 := af [.slice na2 (r + 1) nk2] w9 14 k); (have R10 := R9.btw hb9 (.inl hkk)); (have PI10 := PI9.put hb9); (have PN10 := PN9.put hb9); (have B10 := ai (k := k) [.slice na2 (r + 1) nk2] w w9 14 B9 (by omega)); (clear hb9); (generalize ah w9 k 14 [.slice na2 (r + 1) nk2] = wf at *)
     refine hK.out _ _ ?_ (fun hHeld => ?_)
     ·trivial
     clear hK K
     (try simp only [zA])
     refine zTk 6 ?_
     refine zQ 7 fun K hK => ?_
     go_simp
     refine hK.out _ _ ?_ (fun hHeld => ?_)
     ·trivial
     clear hK K
     (try simp only [zA])
     refine wpAnyH_done (by kernel_rfl) ?_ _
     go_wp2_with fail
     go_roundw
     case rel => exact ⟨r + 1, na2, nk2, by omega, by go_num, R10, O10, PI10, PN10, B10⟩
     case measure => simp [intOf]; omega
    ·go_simp
     refine (CN vx).mono ?_; rintro ee vs ⟨rfl, hbl⟩; (replace XB := XB.trans (hbl.mono XB.size)); (clear hbl); (generalize vs = vx at *); (have hcl : vx.cell? ⟨k, 14, none⟩ = some (.slice na r nk) := (O.below XB).cell rfl)
     (try go_wp2_with fail)
     refine hK.out _ _ ?_ (fun hHeld => ?_)
     ·trivial
     clear hK K
     (try simp only [zA])
     refine wpAnyH_ready (rs := [1, 4]) (by kernel_rfl) (by simp) ?_
     refine (zCc (fun K hK => ?_) (zR fun K hK => ?_))
     ·go_simp
      refine hK.out _ _ ?_ (fun hHeld => ?_)
      ·trivial
      clear hK K
      (try simp only [zA])
      refine zQ 4 fun K hK => ?_
      go_simp
      (have XA := XB.trans ((Below.nw vx (.cells (nzA (r : Int)) 98)).mono XB.size)); (have hcm : (vx.alloc (.cells (nzA (r : Int)) 98)).cell? ⟨k, 14, none⟩ = some (.slice na r nk) := (O.below XA).cell rfl)
      refine hK.out _ _ ?_ (fun hHeld => ?_)
      ·trivial
      clear hK K
      (try simp only [zA])
      refine zQ 5 fun K hK => ?_
      (have PX := PN.below XB); (have hkx : k < vx.heap.size := Nat.lt_of_lt_of_le O.1 XB.size); (have hsx : w.heap.size + 2 ≤ vx.heap.size := by (have q := XB.size); (have q2 := O.1); omega); (obtain ⟨na2, nk2, w9, hr9, PN9, hg9⟩ := aV vx 46 k (w.heap.size + 2) r na nk PX (by omega) hsx hkx); (refine aW rfl _ _ 46 rfl (.slice na r nk) (.slice (some ⟨vx.heap.size, 0, none⟩) 1 1) rfl rfl ⟨_, w9, hr9, ?_⟩); (have O9 := PX.bo hg9 (O.below XB) (.inl rfl)); (have R9 := PX.bo hg9 (R.below XB) (.inr (by omega))); (have PI9 := (PI.below XB).kept PX (by decide) hg9); (have B9 := (B.trans (XB.mono B.size)).trans (PX.bel hg9 (B := w.heap.size) (by omega) (by omega))); (have hst := Bo.store (P := Tryz.prog) (b := 14) [.slice na2 (r + 1) nk2] 14 0 O9 rfl (show 14 + 1 ≤ 18 by decide) (List.forall_mem_cons.2 ⟨rfl, fun _ h => nomatch h⟩)); (have O10 : Bo (ah w9 k 14 [.slice na2 (r + 1) nk2]) k #[.int .i64 y.dn, .int .i64 y.dd, .int .i64 y.li, .int .i64 y.le, .int .i64 y.pt, .int .i64 y.ag, .int .i64 y.ke, .int .i64 y.lg, .int .i64 y.s, .int .i64 y.g, .slice p y.m d, .slice la n lc, .int .i64 0, .slice (some ⟨jc, 0, none⟩) n n, .slice na2 (r + 1) nk2, .int .i64 0, .slice none 0 0, .slice none 0 0] := Bo.put [.slice na2 (r + 1) nk2] 14 O9); (have hb9 := af [.slice na2 (r + 1) nk2] w9 14 k); (have R10 := R9.btw hb9 (.inl hkk)); (have PI10 := PI9.put hb9); (have PN10 := PN9.put hb9); (have B10 := ai (k := k) [.slice na2 (r + 1) nk2] w w9 14 B9 (by omega)); (clear hb9); (generalize ah w9 k 14 [.slice na2 (r + 1) nk2] = wf at *)
      refine hK.out _ _ ?_ (fun hHeld => ?_)
      ·trivial
      clear hK K
      (try simp only [zA])
      refine zTk 6 ?_
      refine zQ 7 fun K hK => ?_
      go_simp
      refine hK.out _ _ ?_ (fun hHeld => ?_)
      ·trivial
      clear hK K
      (try simp only [zA])
      refine wpAnyH_done (by kernel_rfl) ?_ _
      go_wp2_with fail
      go_roundw
      case rel => exact ⟨r + 1, na2, nk2, by omega, by go_num, R10, O10, PI10, PN10, B10⟩
      case measure => simp [intOf]; omega
     ·go_simp
      (have XA := XB.trans ((Below.nw vx (.cells (nzA (r : Int)) 98)).mono XB.size)); (have hcm : (vx.alloc (.cells (nzA (r : Int)) 98)).cell? ⟨k, 14, none⟩ = some (.slice na r nk) := (O.below XA).cell rfl)
      refine hK.out _ _ ?_ (fun hHeld => ?_)
      ·trivial
      clear hK K
      (try simp only [zA])
      refine zQ 1 fun K hK => ?_
      go_simp
      refine hK.out _ _ ?_ (fun hHeld => ?_)
      ·trivial
      clear hK K
      (try simp only [zA])
      refine zQ 5 fun K hK => ?_
      (have PX := PN.below XB); (have hkx : k < vx.heap.size := Nat.lt_of_lt_of_le O.1 XB.size); (have hsx : w.heap.size + 2 ≤ vx.heap.size := by (have q := XB.size); (have q2 := O.1); omega); (obtain ⟨na2, nk2, w9, hr9, PN9, hg9⟩ := aV vx 46 k (w.heap.size + 2) r na nk PX (by omega) hsx hkx); (refine aW rfl _ _ 46 rfl (.slice na r nk) (.slice (some ⟨vx.heap.size, 0, none⟩) 1 1) rfl rfl ⟨_, w9, hr9, ?_⟩); (have O9 := PX.bo hg9 (O.below XB) (.inl rfl)); (have R9 := PX.bo hg9 (R.below XB) (.inr (by omega))); (have PI9 := (PI.below XB).kept PX (by decide) hg9); (have B9 := (B.trans (XB.mono B.size)).trans (PX.bel hg9 (B := w.heap.size) (by omega) (by omega))); (have hst := Bo.store (P := Tryz.prog) (b := 14) [.slice na2 (r + 1) nk2] 14 0 O9 rfl (show 14 + 1 ≤ 18 by decide) (List.forall_mem_cons.2 ⟨rfl, fun _ h => nomatch h⟩)); (have O10 : Bo (ah w9 k 14 [.slice na2 (r + 1) nk2]) k #[.int .i64 y.dn, .int .i64 y.dd, .int .i64 y.li, .int .i64 y.le, .int .i64 y.pt, .int .i64 y.ag, .int .i64 y.ke, .int .i64 y.lg, .int .i64 y.s, .int .i64 y.g, .slice p y.m d, .slice la n lc, .int .i64 0, .slice (some ⟨jc, 0, none⟩) n n, .slice na2 (r + 1) nk2, .int .i64 0, .slice none 0 0, .slice none 0 0] := Bo.put [.slice na2 (r + 1) nk2] 14 O9); (have hb9 := af [.slice na2 (r + 1) nk2] w9 14 k); (have R10 := R9.btw hb9 (.inl hkk)); (have PI10 := PI9.put hb9); (have PN10 := PN9.put hb9); (have B10 := ai (k := k) [.slice na2 (r + 1) nk2] w w9 14 B9 (by omega)); (clear hb9); (generalize ah w9 k 14 [.slice na2 (r + 1) nk2] = wf at *)
      refine hK.out _ _ ?_ (fun hHeld => ?_)
      ·trivial
      clear hK K
      (try simp only [zA])
      refine zTk 6 ?_
      refine zQ 7 fun K hK => ?_
      go_simp
      refine hK.out _ _ ?_ (fun hHeld => ?_)
      ·trivial
      clear hK K
      (try simp only [zA])
      refine wpAnyH_done (by kernel_rfl) ?_ _
      go_wp2_with fail
      go_roundw
      case rel => exact ⟨r + 1, na2, nk2, by omega, by go_num, R10, O10, PI10, PN10, B10⟩
      case measure => simp [intOf]; omega
   ·obtain rfl : n = r := by omega
    have hli : ¬ (n : Int) < (n : Int) := by omega
    clear CN hlt hr
    have hW : WdW wr #[.int .i64 y.dn, .int .i64 y.dd, .int .i64 y.li, .int .i64 y.le, .int .i64 y.pt, .int .i64 y.ag, .int .i64 y.ke, .int .i64 y.lg, .int .i64 y.s, .int .i64 y.g, .slice p y.m d, .slice la n lc, .int .i64 0, .slice (some ⟨jc, 0, none⟩) n n, .slice na n nk, .int .i64 0, .slice none 0 0, .slice none 0 0] (nwX y n LB) := fm hm hn (hp.below B).src (hl.below B).src PI.1.srcC PN.1.srcC
    have hL := O.load (P := Tryz.prog) (show (#[.int .i64 y.dn, .int .i64 y.dd, .int .i64 y.li, .int .i64 y.le, .int .i64 y.pt, .int .i64 y.ag, .int .i64 y.ke, .int .i64 y.lg, .int .i64 y.s, .int .i64 y.g, .slice p y.m d, .slice la n lc, .int .i64 0, .slice (some ⟨jc, 0, none⟩) n n, .slice na n nk, .int .i64 0, .slice none 0 0, .slice none 0 0] : Array Value).size = 18 from rfl)
    go_wp2_with (rw [hL])
    refine (jU #[.int .i64 y.dn, .int .i64 y.dd, .int .i64 y.li, .int .i64 y.le, .int .i64 y.pt, .int .i64 y.ag, .int .i64 y.ke, .int .i64 y.lg, .int .i64 y.s, .int .i64 y.g, .slice p y.m d, .slice la n lc, .int .i64 0, .slice (some ⟨jc, 0, none⟩) n n, .slice na n nk, .int .i64 0, .slice none 0 0, .slice none 0 0] (nwX y n LB) wr hW (jI y n LB) (kA y n LB h8)).mono ?_
    rintro e v8 ⟨rfl, hb⟩
    replace R := R.below hb
    replace O := O.below hb
    replace B := B.trans (hb.mono B.size)
    replace PI := PI.below hb
    replace PN := PN.below hb
    clear hb hL hW
    cases hok : aT (nwX y n LB)
    ·have hbB : nwB y n LB = false := by rw [nwB, hok, Bool.and_false]
     have hO : nwO y n LB = zwX := by rw [nwO, hbB]
     clear O PI PN
     have hst := Bo.store (P := Tryz.prog) (b := 0) [.int .i64 0, .int .i64 0, .int .i64 0, .int .i64 0, .int .i64 0, .int .i64 0, .int .i64 0, .int .i64 0, .int .i64 0, .int .i64 0, .slice none 0 0, .slice none 0 0, .int .i64 0, .slice none 0 0, .slice none 0 0, .int .i64 0, .slice none 0 0, .slice none 0 0] 0 0 R rfl (show 0 + 18 ≤ 18 by decide) (List.forall_mem_cons.2 ⟨rfl, (List.forall_mem_cons.2 ⟨rfl, (List.forall_mem_cons.2 ⟨rfl, (List.forall_mem_cons.2 ⟨rfl, (List.forall_mem_cons.2 ⟨rfl, (List.forall_mem_cons.2 ⟨rfl, (List.forall_mem_cons.2 ⟨rfl, (List.forall_mem_cons.2 ⟨rfl, (List.forall_mem_cons.2 ⟨rfl, (List.forall_mem_cons.2 ⟨rfl, (List.forall_mem_cons.2 ⟨rfl, (List.forall_mem_cons.2 ⟨rfl, (List.forall_mem_cons.2 ⟨rfl, (List.forall_mem_cons.2 ⟨rfl, (List.forall_mem_cons.2 ⟨rfl, (List.forall_mem_cons.2 ⟨rfl, (List.forall_mem_cons.2 ⟨rfl, (List.forall_mem_cons.2 ⟨rfl, fun _ h => nomatch h⟩)⟩)⟩)⟩)⟩)⟩)⟩)⟩)⟩)⟩)⟩)⟩)⟩)⟩)⟩)⟩)⟩)⟩)
     have R2 : Bo (ah v8 (w.heap.size + 1) 0 [.int .i64 0, .int .i64 0, .int .i64 0, .int .i64 0, .int .i64 0, .int .i64 0, .int .i64 0, .int .i64 0, .int .i64 0, .int .i64 0, .slice none 0 0, .slice none 0 0, .int .i64 0, .slice none 0 0, .slice none 0 0, .int .i64 0, .slice none 0 0, .slice none 0 0]) (w.heap.size + 1) #[.int .i64 0, .int .i64 0, .int .i64 0, .int .i64 0, .int .i64 0, .int .i64 0, .int .i64 0, .int .i64 0, .int .i64 0, .int .i64 0, .slice none 0 0, .slice none 0 0, .int .i64 0, .slice none 0 0, .slice none 0 0, .int .i64 0, .slice none 0 0, .slice none 0 0] := R.putW (U := #[.int .i64 0, .int .i64 0, .int .i64 0, .int .i64 0, .int .i64 0, .int .i64 0, .int .i64 0, .int .i64 0, .int .i64 0, .int .i64 0, .slice none 0 0, .slice none 0 0, .int .i64 0, .slice none 0 0, .slice none 0 0, .int .i64 0, .slice none 0 0, .slice none 0 0]) rfl
     have B2 := ai (k := w.heap.size + 1) [.int .i64 0, .int .i64 0, .int .i64 0, .int .i64 0, .int .i64 0, .int .i64 0, .int .i64 0, .int .i64 0, .int .i64 0, .int .i64 0, .slice none 0 0, .slice none 0 0, .int .i64 0, .slice none 0 0, .slice none 0 0, .int .i64 0, .slice none 0 0, .slice none 0 0] w v8 0 B (by omega)
     go_wp2_with (rw [hst])
     clear hst R B
     generalize ah v8 (w.heap.size + 1) 0 [.int .i64 0, .int .i64 0, .int .i64 0, .int .i64 0, .int .i64 0, .int .i64 0, .int .i64 0, .int .i64 0, .int .i64 0, .int .i64 0, .slice none 0 0, .slice none 0 0, .int .i64 0, .slice none 0 0, .slice none 0 0, .int .i64 0, .slice none 0 0, .slice none 0 0] = vz at *
     have hL0 := R2.load (P := Tryz.prog) (show (#[.int .i64 0, .int .i64 0, .int .i64 0, .int .i64 0, .int .i64 0, .int .i64 0, .int .i64 0, .int .i64 0, .int .i64 0, .int .i64 0, .slice none 0 0, .slice none 0 0, .int .i64 0, .slice none 0 0, .slice none 0 0, .int .i64 0, .slice none 0 0, .slice none 0 0] : Array Value).size = 18 from rfl)
     exact bodyPost_ret (v := .tuple #[.agg #[.int .i64 0, .int .i64 0, .int .i64 0, .int .i64 0, .int .i64 0, .int .i64 0, .int .i64 0, .int .i64 0, .int .i64 0, .int .i64 0, .slice none 0 0, .slice none 0 0, .int .i64 0, .slice none 0 0, .slice none 0 0, .int .i64 0, .slice none 0 0, .slice none 0 0], .bool false]) (by simp [results, Tryz.results17, go_sem]; rw [hL0]; rfl) rfl ⟨_, by rw [hbB], by rw [hO]; exact jW _ _ B2.size, B2⟩
    ·have hbB : nwB y n LB = true := by rw [nwB, hok, Bool.and_true]; exact decide_eq_true h8
     have hO : nwO y n LB = nwX y n LB := by rw [nwO, hbB]
     have hn0 : n ≠ 0 := by
      have q : 1 ≤ n := (iz hok).2.2.1.1
      omega
     have hL := O.load (P := Tryz.prog) (show (#[.int .i64 y.dn, .int .i64 y.dd, .int .i64 y.li, .int .i64 y.le, .int .i64 y.pt, .int .i64 y.ag, .int .i64 y.ke, .int .i64 y.lg, .int .i64 y.s, .int .i64 y.g, .slice p y.m d, .slice la n lc, .int .i64 0, .slice (some ⟨jc, 0, none⟩) n n, .slice na n nk, .int .i64 0, .slice none 0 0, .slice none 0 0] : Array Value).size = 18 from rfl)
     have hRv8 : w.heap.size + 1 < v8.heap.size := R.1
     go_wp2_with (rw [hL])
     refine (jZ y p la (some ⟨jc, 0, none⟩) na d lc n nk n LB v8 hm h8 hn0 (hp.below B) (hl.below B) PI.1.rw PN.1.rw).mono ?_
     rintro e v9 ⟨A, rfl, HN, hb⟩
     clear hL PI PN O
     replace R := R.below hb
     have hBs8 : w.heap.size ≤ v8.heap.size := B.size
     replace B := B.trans (hb.mono B.size)
     clear hb
     have hA := HN.wd.size
     have hst := Bo.store (P := Tryz.prog) (b := 0) A.toList 0 0 R rfl (show 0 + A.toList.length ≤ 18 by rw [Array.length_toList, hA]; decide) HN.wd.one
     have R2 : Bo (ah v9 (w.heap.size + 1) 0 A.toList) (w.heap.size + 1) A := R.putW (U := A) (by rw [hA]; rfl)
     have B2 := ai (k := w.heap.size + 1) A.toList w v9 0 B (by omega)
     have HN2 := HN.far (af A.toList v9 0 (w.heap.size + 1)) (by omega) hBs8
     go_wp2_with (rw [hst])
     clear hst R B HN
     generalize ah v9 (w.heap.size + 1) 0 A.toList = vz at *
     have hL0 := R2.load (P := Tryz.prog) hA
     exact bodyPost_ret (v := .tuple #[.agg A, .bool true]) (by simp [results, Tryz.results17, go_sem]; rw [hL0]; rfl) rfl ⟨_, by rw [hbB], by rw [hO]; exact ⟨y, n, LB, rfl, HN2⟩, B2⟩
 ·have hgt : (8 : Int) < (n : Int) := by omega
  have hbB : nwB y n LB = false := by rw [nwB, decide_eq_false h8]; rfl
  have hO : nwO y n LB = zwX := by rw [nwO, hbB]
  clear CN hp hl
  have A0 := Below.nw w (.cells (cfV y p d) 45)
  have A1 := Below.nw (w.alloc (.cells (cfV y p d) 45)) (.cells #[.int .i64 0, .int .i64 0, .int .i64 0, .int .i64 0, .int .i64 0, .int .i64 0, .int .i64 0, .int .i64 0, .int .i64 0, .int .i64 0, .slice none 0 0, .slice none 0 0, .int .i64 0, .slice none 0 0, .slice none 0 0, .int .i64 0, .slice none 0 0, .slice none 0 0] 52)
  have C := (Bo.new w (cfV y p d) 45).below A1
  have R := Bo.new (w.alloc (.cells (cfV y p d) 45)) #[.int .i64 0, .int .i64 0, .int .i64 0, .int .i64 0, .int .i64 0, .int .i64 0, .int .i64 0, .int .i64 0, .int .i64 0, .int .i64 0, .slice none 0 0, .slice none 0 0, .int .i64 0, .slice none 0 0, .slice none 0 0, .int .i64 0, .slice none 0 0, .slice none 0 0] 52
  have B := A0
  replace B := B.trans (A1.mono B.size)
  simp only [World.size_alloc] at R
  clear A0 A1
  go_enter Tryz.func17, Tryz.ntmps17
  go_upto_region 1 with fail
  generalize ((w.alloc (.cells (cfV y p d) 45))).alloc (.cells #[.int .i64 0, .int .i64 0, .int .i64 0, .int .i64 0, .int .i64 0, .int .i64 0, .int .i64 0, .int .i64 0, .int .i64 0, .int .i64 0, .slice none 0 0, .slice none 0 0, .int .i64 0, .slice none 0 0, .slice none 0 0, .int .i64 0, .slice none 0 0, .slice none 0 0] 52) = v0 at *
  have hst := Bo.store (P := Tryz.prog) (b := 0) [.int .i64 0, .int .i64 0, .int .i64 0, .int .i64 0, .int .i64 0, .int .i64 0, .int .i64 0, .int .i64 0, .int .i64 0, .int .i64 0, .slice none 0 0, .slice none 0 0, .int .i64 0, .slice none 0 0, .slice none 0 0, .int .i64 0, .slice none 0 0, .slice none 0 0] 0 0 R rfl (show 0 + 18 ≤ 18 by decide) (List.forall_mem_cons.2 ⟨rfl, (List.forall_mem_cons.2 ⟨rfl, (List.forall_mem_cons.2 ⟨rfl, (List.forall_mem_cons.2 ⟨rfl, (List.forall_mem_cons.2 ⟨rfl, (List.forall_mem_cons.2 ⟨rfl, (List.forall_mem_cons.2 ⟨rfl, (List.forall_mem_cons.2 ⟨rfl, (List.forall_mem_cons.2 ⟨rfl, (List.forall_mem_cons.2 ⟨rfl, (List.forall_mem_cons.2 ⟨rfl, (List.forall_mem_cons.2 ⟨rfl, (List.forall_mem_cons.2 ⟨rfl, (List.forall_mem_cons.2 ⟨rfl, (List.forall_mem_cons.2 ⟨rfl, (List.forall_mem_cons.2 ⟨rfl, (List.forall_mem_cons.2 ⟨rfl, (List.forall_mem_cons.2 ⟨rfl, fun _ h => nomatch h⟩)⟩)⟩)⟩)⟩)⟩)⟩)⟩)⟩)⟩)⟩)⟩)⟩)⟩)⟩)⟩)⟩)⟩)
  have R2 : Bo (ah v0 (w.heap.size + 1) 0 [.int .i64 0, .int .i64 0, .int .i64 0, .int .i64 0, .int .i64 0, .int .i64 0, .int .i64 0, .int .i64 0, .int .i64 0, .int .i64 0, .slice none 0 0, .slice none 0 0, .int .i64 0, .slice none 0 0, .slice none 0 0, .int .i64 0, .slice none 0 0, .slice none 0 0]) (w.heap.size + 1) #[.int .i64 0, .int .i64 0, .int .i64 0, .int .i64 0, .int .i64 0, .int .i64 0, .int .i64 0, .int .i64 0, .int .i64 0, .int .i64 0, .slice none 0 0, .slice none 0 0, .int .i64 0, .slice none 0 0, .slice none 0 0, .int .i64 0, .slice none 0 0, .slice none 0 0] := R.putW (U := #[.int .i64 0, .int .i64 0, .int .i64 0, .int .i64 0, .int .i64 0, .int .i64 0, .int .i64 0, .int .i64 0, .int .i64 0, .int .i64 0, .slice none 0 0, .slice none 0 0, .int .i64 0, .slice none 0 0, .slice none 0 0, .int .i64 0, .slice none 0 0, .slice none 0 0]) rfl
  have B2 := ai (k := w.heap.size + 1) [.int .i64 0, .int .i64 0, .int .i64 0, .int .i64 0, .int .i64 0, .int .i64 0, .int .i64 0, .int .i64 0, .int .i64 0, .int .i64 0, .slice none 0 0, .slice none 0 0, .int .i64 0, .slice none 0 0, .slice none 0 0, .int .i64 0, .slice none 0 0, .slice none 0 0] w v0 0 B (by omega)
  go_wp2_with (rw [hst])
  clear hst R B
  generalize ah v0 (w.heap.size + 1) 0 [.int .i64 0, .int .i64 0, .int .i64 0, .int .i64 0, .int .i64 0, .int .i64 0, .int .i64 0, .int .i64 0, .int .i64 0, .int .i64 0, .slice none 0 0, .slice none 0 0, .int .i64 0, .slice none 0 0, .slice none 0 0, .int .i64 0, .slice none 0 0, .slice none 0 0] = vz at *
  have hL0 := R2.load (P := Tryz.prog) (show (#[.int .i64 0, .int .i64 0, .int .i64 0, .int .i64 0, .int .i64 0, .int .i64 0, .int .i64 0, .int .i64 0, .int .i64 0, .int .i64 0, .slice none 0 0, .slice none 0 0, .int .i64 0, .slice none 0 0, .slice none 0 0, .int .i64 0, .slice none 0 0, .slice none 0 0] : Array Value).size = 18 from rfl)
  exact bodyPost_ret (v := .tuple #[.agg #[.int .i64 0, .int .i64 0, .int .i64 0, .int .i64 0, .int .i64 0, .int .i64 0, .int .i64 0, .int .i64 0, .int .i64 0, .int .i64 0, .slice none 0 0, .slice none 0 0, .int .i64 0, .slice none 0 0, .slice none 0 0, .int .i64 0, .slice none 0 0, .slice none 0 0], .bool false]) (by simp [results, Tryz.results17, go_sem]; rw [hL0]; rfl) rfl ⟨_, by rw [hbB], by rw [hO]; exact jW _ _ B2.size, B2⟩
end Go.Proofs.YtddijpjgkifngaaGreat
