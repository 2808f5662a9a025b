/- NewWorld in the specification. -/
import Derived.Test.YtddijpjgkifngaaGreatMN0
import Derived.Test.YtddijpjgkifngaaGreatMN32
namespace Go.Proofs.YtddijpjgkifngaaGreat
open Go.RowKit
set_option linter.unusedVariables false
set_option maxRecDepth 100000
set_option maxHeartbeats 16000000
attribute [-go_sem] loadCells storeCells in
theorem es (AC : Array Value) (y : CfX) (la : Option Addr) (n lc : Nat) (LB : Nat → Bool) (w : World) (hc : CfS w AC y) (hm : y.m ≤ 1048576) (hn : n ≤ 1048576) (hl : RwO w la n lc 1 (boG LB)) :
 Calls Tryz.prog 14 #[.agg AC, .slice la n lc] w fun e w' => ∃ A, e = .returned (.tuple #[.agg A, .bool (nwB y n LB)]) ∧ WdW w' A (nwO y n LB) ∧ Below w.heap.size w w' := by
 obtain ⟨p, d, rfl, -, hp⟩ := hc
 have CP := fun (v : World) (h : Below w.heap.size w v) => jA y.s y.g p y.m d y.PM v hm (hp.below h)
 have CN : ∀ (v : World) (i : Nat), Calls Tryz.prog 58 #[.int .i64 (i : Int)] v fun e w' => e = .returned (.agg (nzA (i : Int))) ∧ Below v.heap.size v w' := fun v i => da (i : Int) v
 by_cases h8 : n ≤ 8
 ·have hgt : ¬ (8 : Int) < (n : Int) := by omega
  have HZL : Hid (n = 0 → la = none ∧ lc = 0 ∨ ∃ b off, la = some ⟨b, off, none⟩) := fun _ => by
   rcases hl with ⟨h1, _, h2⟩ | ⟨b, off, h1, _⟩
   ·exact .inl ⟨h1, h2⟩
   ·exact .inr ⟨b, off, h1⟩
  have SL0 : ae w la n (boG LB) := by have q := hl.src; rwa [Nat.mul_one] at q
  have SL : Hid (∀ v, Below w.heap.size w v → ae v la n (boG LB)) := fun v h => SL0.below h
  clear hl hp SL0
  have A0 := Below.nw w (.cells (cfV y p d) 45)
  have A1 := Below.nw (w.alloc (.cells (cfV y p d) 45)) (.cells #[.int .i64 0, .int .i64 0, .int .i64 0, .int .i64 0, .int .i64 0, .int .i64 0, .int .i64 0, .int .i64 0, .int .i64 0, .int .i64 0, .slice none 0 0, .slice none 0 0, .int .i64 0, .slice none 0 0, .slice none 0 0, .int .i64 0, .slice none 0 0, .slice none 0 0] 52)
  have C := (Bo.new w (cfV y p d) 45).below A1
  have R := Bo.new (w.alloc (.cells (cfV y p d) 45)) #[.int .i64 0, .int .i64 0, .int .i64 0, .int .i64 0, .int .i64 0, .int .i64 0, .int .i64 0, .int .i64 0, .int .i64 0, .int .i64 0, .slice none 0 0, .slice none 0 0, .int .i64 0, .slice none 0 0, .slice none 0 0, .int .i64 0, .slice none 0 0, .slice none 0 0] 52
  have B := A0
  replace B := B.trans (A1.mono B.size)
  simp only [World.size_alloc] at R
  clear A0 A1
  go_enter Tryz.func14, Tryz.ntmps14
  go_upto_region 1 with fail
  generalize ((w.alloc (.cells (cfV y p d) 45))).alloc (.cells #[.int .i64 0, .int .i64 0, .int .i64 0, .int .i64 0, .int .i64 0, .int .i64 0, .int .i64 0, .int .i64 0, .int .i64 0, .int .i64 0, .slice none 0 0, .slice none 0 0, .int .i64 0, .slice none 0 0, .slice none 0 0, .int .i64 0, .slice none 0 0, .slice none 0 0] 52) = v0 at *
  have hL0 : (loadCells ⟨w.heap.size, 8, none⟩ 3).run Tryz.prog v0 = .ok #[.int .i64 y.s, .int .i64 y.g, .slice p y.m d] v0 := C.loadAt (P := Tryz.prog) 8 3 (show 8 + 3 ≤ 11 by decide)
  go_wp2_with (rw [hL0])
  refine (CP v0 B).mono ?_
  rintro e v1 ⟨p2, d2, rfl, P1, hb⟩
  clear hL0
  have q1C : w.heap.size < v0.heap.size := C.1
  have q1R : w.heap.size + 1 < v0.heap.size := R.1
  have q1 : w.heap.size ≤ v0.heap.size := B.size
  have zv1 : v0.heap.size ≤ v1.heap.size := hb.size
  replace B := B.trans (hb.mono B.size)
  replace C := C.below hb
  replace R := R.below hb
  clear hb
  have hst := Bo.store (P := Tryz.prog) (b := 8) ([.int .i64 y.s, .int .i64 y.g, .slice p2 y.m d2]) 8 0 C rfl (show 8 + 3 ≤ 11 by decide) (List.forall_mem_cons.2 ⟨rfl, (List.forall_mem_cons.2 ⟨rfl, (List.forall_mem_cons.2 ⟨rfl, fun _ h => nomatch h⟩)⟩)⟩)
  have hb : Btw (w.heap.size) (w.heap.size + 1) v1 _ := af ([.int .i64 y.s, .int .i64 y.g, .slice p2 y.m d2]) v1 8 (w.heap.size)
  have B1 := ai (k := w.heap.size) ([.int .i64 y.s, .int .i64 y.g, .slice p2 y.m d2]) w v1 8 B (by omega)
  have N1 : Bo (ah v1 (w.heap.size) 8 ([.int .i64 y.s, .int .i64 y.g, .slice p2 y.m d2])) (w.heap.size) ((cfV y p2 d2)) := Bo.put ([.int .i64 y.s, .int .i64 y.g, .slice p2 y.m d2]) 8 C
  go_upto_region 4 with (rw [hst])
  clear hst  C B
  replace R := R.btw hb (by omega)
  replace P1 := P1.btw hb (by omega)
  have zv2 := hb.2.2.2.1
  clear hb
  generalize ah v1 (w.heap.size) 8 ([.int .i64 y.s, .int .i64 y.g, .slice p2 y.m d2]) = v2 at *
  have B := B1
  have C := N1
  clear B1 N1
  have hCv : w.heap.size < v2.heap.size := C.1
  have hRv : w.heap.size + 1 < v2.heap.size := R.1
  have SK : Hid (∀ w', Below v2.heap.size v2 w' → (loadCells ⟨w.heap.size, 0, none⟩ 11).run Tryz.prog w' = .ok #[.int .i64 y.dn, .int .i64 y.dd, .int .i64 y.li, .int .i64 y.le, .int .i64 y.pt, .int .i64 y.ag, .int .i64 y.ke, .int .i64 y.lg, .int .i64 y.s, .int .i64 y.g, .slice p2 y.m d2] w') := fun w' hw => (C.below hw).load (P := Tryz.prog) (show (cfV y p2 d2 : Array Value).size = 11 from rfl)
  clear CP
  go_cut [6] (fun s6 wx => ∃ (j : Nat) (a9 : Option Addr) (c9 : Nat), s6 = .pointer (some ⟨j, 0, none⟩) ∧ Bo wx j #[.int .i64 y.dn, .int .i64 y.dd, .int .i64 y.li, .int .i64 y.le, .int .i64 y.pt, .int .i64 y.ag, .int .i64 y.ke, .int .i64 y.lg, .int .i64 y.s, .int .i64 y.g, .slice p2 y.m d2, .slice a9 n c9, .int .i64 0, .slice none 0 0, .slice none 0 0, .int .i64 0, .slice none 0 0, .slice none 0 0] ∧ v2.heap.size ≤ j ∧ RwK wx j v2.heap.size 4 1 a9 n c9 (boG LB) ∧ Below v2.heap.size v2 wx)
  case first => as_aux_lemma =>
   refine wp_region_held_drew (S := (fun w' => (loadCells ⟨w.heap.size, 0, none⟩ 11).run Tryz.prog w' = .ok #[.int .i64 y.dn, .int .i64 y.dd, .int .i64 y.li, .int .i64 y.le, .int .i64 y.pt, .int .i64 y.ag, .int .i64 y.ke, .int .i64 y.lg, .int .i64 y.s, .int .i64 y.g, .slice p2 y.m d2] w')) (by kernel_rfl) ?_ (fun hHeld => ?_)
   ·first | exact SK.out _ XB | exact SK.out _ zD | exact SK.out _ XF
   have XB : Below v2.heap.size v2 v2.drew := Below.drew (Below.refl _ _)
   generalize v2.drew = vx at *
   refine zTk 0 ?_
   refine zTk 2 ?_
   refine wpAnyH_ready (rs := [1, 5]) (by kernel_rfl) (by simp) ?_
   refine (zCc (fun K hK => ?_) (zR fun K hK => ?_))
   ·go_simp
    (have OW : (vx.alloc (.cells #[] 4)).ownsRow vx.heap.size 4 1 (.slice (some ⟨vx.heap.size, 0, none⟩) 0 0) 0 ([] : List Value) := World.ownsRow_made vx #[] 0 (Nat.le_refl _) (by simp [maxLen]) (by simp)); (have hgv : v2.heap.size ≤ vx.heap.size := XB.size); (have NL := Below.nw vx (.cells #[] 4)); (have hgl : vx.heap.size < (vx.alloc (.cells #[] 4)).heap.size := by simp); (replace XB := XB.trans (NL.mono XB.size)); (clear NL); (generalize vx.alloc (.cells #[] 4) = vy at *); (generalize vx.heap.size = g0 at *); (generalize vy = vx at *)
    refine hK.out _ _ ?_ (fun hHeld => ?_)
    ·first | exact SK.out _ XB | exact SK.out _ zD | exact SK.out _ XF
    clear hK K
    (try simp only [zA])
    refine wpAnyH_ready (rs := [3, 5]) (by kernel_rfl) (by simp) ?_
    refine (zCc (fun K hK => ?_) (zR fun K hK => ?_))
    ·(obtain ⟨v9, w9, hr9, O9, hg9, h39⟩ := bA vx 29 g0 LB _ OW la n lc (SL.out vx (B.trans (XB.mono B.size))) HZL.out hn (by omega)); (obtain ⟨a9, c9, rfl, -, -, -⟩ := aS O9); (refine aW rfl _ _ 29 rfl (.slice (some ⟨g0, 0, none⟩) 0 0) (.slice la n lc) rfl rfl ⟨_, w9, hr9, ?_⟩); (have NB := az OW hg9 (by omega)); (have NL : Below v2.heap.size vx w9 := NB.mono hgv); (have Q9 : Rwo w9 v2.heap.size w9.heap.size 4 1 a9 n c9 (boG LB) := (bt O9).low hgv); (replace XB := XB.trans NL); (clear NL NB hr9 O9 hg9 h39 OW); (generalize w9 = vx at *)
     refine hK.out _ _ ?_ (fun hHeld => ?_)
     ·first | exact SK.out _ XB | exact SK.out _ zD | exact SK.out _ XF
     clear hK K
     (try simp only [zA])
     refine wpAnyH_take (i := 4) (v := ?_) (by rw [List.getElem?_toArray]; rfl) (by kernel_rfl) (by kernel_rfl) (by kernel_rfl) (by intro _ _ _ h; exact h) (Or.inl ⟨by rfl, ?_⟩) (by assumption) ?_
     rotate_left
     ·(intro w hSw; refine bn 52 #[(0, .tmp 16), (1, .tmp 19)] [(0, .agg #[.int .i64 y.dn, .int .i64 y.dd, .int .i64 y.li, .int .i64 y.le, .int .i64 y.pt, .int .i64 y.ag, .int .i64 y.ke, .int .i64 y.lg, .int .i64 y.s, .int .i64 y.g, .slice p2 y.m d2]), (1, .slice a9 n c9)] #[.int .i64 y.dn, .int .i64 y.dd, .int .i64 y.li, .int .i64 y.le, .int .i64 y.pt, .int .i64 y.ag, .int .i64 y.ke, .int .i64 y.lg, .int .i64 y.s, .int .i64 y.g, .slice p2 y.m d2, .slice a9 n c9, .int .i64 0, .slice none 0 0, .slice none 0 0, .int .i64 0, .slice none 0 0, .slice none 0 0] (dm y p2 a9 d2 n c9) ?_ ?_ <;> rfl)
     (try simp only [zA])
     refine zQ 5 fun K hK => ?_
     go_simp
     (have Z := Bo.new vx (#[.int .i64 0, .int .i64 0, .int .i64 0, .int .i64 0, .int .i64 0, .int .i64 0, .int .i64 0, .int .i64 0, .int .i64 0, .int .i64 0, .slice none 0 0, .slice none 0 0, .int .i64 0, .slice none 0 0, .slice none 0 0, .int .i64 0, .slice none 0 0, .slice none 0 0]) 52); (have NL := Below.nw vx (.cells (#[.int .i64 0, .int .i64 0, .int .i64 0, .int .i64 0, .int .i64 0, .int .i64 0, .int .i64 0, .int .i64 0, .int .i64 0, .int .i64 0, .slice none 0 0, .slice none 0 0, .int .i64 0, .slice none 0 0, .slice none 0 0, .int .i64 0, .slice none 0 0, .slice none 0 0]) 52)); (have hzv : v2.heap.size ≤ vx.heap.size := XB.size); (have K9 : RwK (vx.alloc (.cells (#[.int .i64 0, .int .i64 0, .int .i64 0, .int .i64 0, .int .i64 0, .int .i64 0, .int .i64 0, .int .i64 0, .int .i64 0, .int .i64 0, .slice none 0 0, .slice none 0 0, .int .i64 0, .slice none 0 0, .slice none 0 0, .int .i64 0, .slice none 0 0, .slice none 0 0]) 52)) vx.heap.size v2.heap.size 4 1 a9 n c9 (boG LB) := RwK.below ⟨Q9, fun g hg => by (have q := (Q9.lt hg).2.2); omega⟩ NL); (clear Q9); (replace XB := XB.trans (NL.mono XB.size)); (clear NL); (generalize vx.alloc (.cells (#[.int .i64 0, .int .i64 0, .int .i64 0, .int .i64 0, .int .i64 0, .int .i64 0, .int .i64 0, .int .i64 0, .int .i64 0, .int .i64 0, .slice none 0 0, .slice none 0 0, .int .i64 0, .slice none 0 0, .slice none 0 0, .int .i64 0, .slice none 0 0, .slice none 0 0]) 52) = vy at *); (generalize vx.heap.size = jz at *); (generalize vy = vx at *); (have hst : (storeCells ⟨jz, 0, none⟩ ([.int .i64 y.dn, .int .i64 y.dd, .int .i64 y.li, .int .i64 y.le, .int .i64 y.pt, .int .i64 y.ag, .int .i64 y.ke, .int .i64 y.lg, .int .i64 y.s, .int .i64 y.g, .slice p2 y.m d2, .slice a9 n c9, .int .i64 0, .slice none 0 0, .slice none 0 0, .int .i64 0, .slice none 0 0, .slice none 0 0])).run Tryz.prog vx = .ok () (ah vx jz 0 [.int .i64 y.dn, .int .i64 y.dd, .int .i64 y.li, .int .i64 y.le, .int .i64 y.pt, .int .i64 y.ag, .int .i64 y.ke, .int .i64 y.lg, .int .i64 y.s, .int .i64 y.g, .slice p2 y.m d2, .slice a9 n c9, .int .i64 0, .slice none 0 0, .slice none 0 0, .int .i64 0, .slice none 0 0, .slice none 0 0]) := Bo.store (P := Tryz.prog) (b := 0) [.int .i64 y.dn, .int .i64 y.dd, .int .i64 y.li, .int .i64 y.le, .int .i64 y.pt, .int .i64 y.ag, .int .i64 y.ke, .int .i64 y.lg, .int .i64 y.s, .int .i64 y.g, .slice p2 y.m d2, .slice a9 n c9, .int .i64 0, .slice none 0 0, .slice none 0 0, .int .i64 0, .slice none 0 0, .slice none 0 0] 0 0 Z rfl (show 0 + 18 ≤ 18 by decide) (List.forall_mem_cons.2 ⟨rfl, (List.forall_mem_cons.2 ⟨rfl, (List.forall_mem_cons.2 ⟨rfl, (List.forall_mem_cons.2 ⟨rfl, (List.forall_mem_cons.2 ⟨rfl, (List.forall_mem_cons.2 ⟨rfl, (List.forall_mem_cons.2 ⟨rfl, (List.forall_mem_cons.2 ⟨rfl, (List.forall_mem_cons.2 ⟨rfl, (List.forall_mem_cons.2 ⟨rfl, (List.forall_mem_cons.2 ⟨rfl, (List.forall_mem_cons.2 ⟨rfl, (List.forall_mem_cons.2 ⟨rfl, (List.forall_mem_cons.2 ⟨rfl, (List.forall_mem_cons.2 ⟨rfl, (List.forall_mem_cons.2 ⟨rfl, (List.forall_mem_cons.2 ⟨rfl, (List.forall_mem_cons.2 ⟨rfl, fun _ h => nomatch h⟩)⟩)⟩)⟩)⟩)⟩)⟩)⟩)⟩)⟩)⟩)⟩)⟩)⟩)⟩)⟩)⟩)⟩)); (have ZF : Bo (ah vx jz 0 [.int .i64 y.dn, .int .i64 y.dd, .int .i64 y.li, .int .i64 y.le, .int .i64 y.pt, .int .i64 y.ag, .int .i64 y.ke, .int .i64 y.lg, .int .i64 y.s, .int .i64 y.g, .slice p2 y.m d2, .slice a9 n c9, .int .i64 0, .slice none 0 0, .slice none 0 0, .int .i64 0, .slice none 0 0, .slice none 0 0]) jz #[.int .i64 y.dn, .int .i64 y.dd, .int .i64 y.li, .int .i64 y.le, .int .i64 y.pt, .int .i64 y.ag, .int .i64 y.ke, .int .i64 y.lg, .int .i64 y.s, .int .i64 y.g, .slice p2 y.m d2, .slice a9 n c9, .int .i64 0, .slice none 0 0, .slice none 0 0, .int .i64 0, .slice none 0 0, .slice none 0 0] := Z.putW (U := #[.int .i64 y.dn, .int .i64 y.dd, .int .i64 y.li, .int .i64 y.le, .int .i64 y.pt, .int .i64 y.ag, .int .i64 y.ke, .int .i64 y.lg, .int .i64 y.s, .int .i64 y.g, .slice p2 y.m d2, .slice a9 n c9, .int .i64 0, .slice none 0 0, .slice none 0 0, .int .i64 0, .slice none 0 0, .slice none 0 0]) rfl); (have XF : Below v2.heap.size v2 (ah vx jz 0 [.int .i64 y.dn, .int .i64 y.dd, .int .i64 y.li, .int .i64 y.le, .int .i64 y.pt, .int .i64 y.ag, .int .i64 y.ke, .int .i64 y.lg, .int .i64 y.s, .int .i64 y.g, .slice p2 y.m d2, .slice a9 n c9, .int .i64 0, .slice none 0 0, .slice none 0 0, .int .i64 0, .slice none 0 0, .slice none 0 0]) := ai (k := jz) [.int .i64 y.dn, .int .i64 y.dd, .int .i64 y.li, .int .i64 y.le, .int .i64 y.pt, .int .i64 y.ag, .int .i64 y.ke, .int .i64 y.lg, .int .i64 y.s, .int .i64 y.g, .slice p2 y.m d2, .slice a9 n c9, .int .i64 0, .slice none 0 0, .slice none 0 0, .int .i64 0, .slice none 0 0, .slice none 0 0] v2 vx 0 XB hzv); (have KF : RwK (ah vx jz 0 [.int .i64 y.dn, .int .i64 y.dd, .int .i64 y.li, .int .i64 y.le, .int .i64 y.pt, .int .i64 y.ag, .int .i64 y.ke, .int .i64 y.lg, .int .i64 y.s, .int .i64 y.g, .slice p2 y.m d2, .slice a9 n c9, .int .i64 0, .slice none 0 0, .slice none 0 0, .int .i64 0, .slice none 0 0, .slice none 0 0]) jz v2.heap.size 4 1 a9 n c9 (boG LB) := K9.put (af [.int .i64 y.dn, .int .i64 y.dd, .int .i64 y.li, .int .i64 y.le, .int .i64 y.pt, .int .i64 y.ag, .int .i64 y.ke, .int .i64 y.lg, .int .i64 y.s, .int .i64 y.g, .slice p2 y.m d2, .slice a9 n c9, .int .i64 0, .slice none 0 0, .slice none 0 0, .int .i64 0, .slice none 0 0, .slice none 0 0] vx 0 jz)); (generalize ah vx jz 0 [.int .i64 y.dn, .int .i64 y.dd, .int .i64 y.li, .int .i64 y.le, .int .i64 y.pt, .int .i64 y.ag, .int .i64 y.ke, .int .i64 y.lg, .int .i64 y.s, .int .i64 y.g, .slice p2 y.m d2, .slice a9 n c9, .int .i64 0, .slice none 0 0, .slice none 0 0, .int .i64 0, .slice none 0 0, .slice none 0 0] = vf at *)
     refine hK.out _ _ ?_ (fun hHeld => ?_)
     ·first | exact SK.out _ XB | exact SK.out _ zD | exact SK.out _ XF
     clear hK K
     (try simp only [zA])
     refine zQ 6 fun K hK => ?_
     go_simp
     refine hK.out _ _ ?_ (fun hHeld => ?_)
     ·first | exact SK.out _ XB | exact SK.out _ zD | exact SK.out _ XF
     clear hK K
     (try simp only [zA])
     refine wpAnyH_done (by kernel_rfl) ?_ _
     go_wp2_with (rw [hst])
     go_meet
     case rel => exact ⟨jz, a9, c9, rfl, ZF, hzv, KF, XF⟩
    ·go_simp
     (have Z := Bo.new vx (#[.int .i64 0, .int .i64 0, .int .i64 0, .int .i64 0, .int .i64 0, .int .i64 0, .int .i64 0, .int .i64 0, .int .i64 0, .int .i64 0, .slice none 0 0, .slice none 0 0, .int .i64 0, .slice none 0 0, .slice none 0 0, .int .i64 0, .slice none 0 0, .slice none 0 0]) 52); (have NL := Below.nw vx (.cells (#[.int .i64 0, .int .i64 0, .int .i64 0, .int .i64 0, .int .i64 0, .int .i64 0, .int .i64 0, .int .i64 0, .int .i64 0, .int .i64 0, .slice none 0 0, .slice none 0 0, .int .i64 0, .slice none 0 0, .slice none 0 0, .int .i64 0, .slice none 0 0, .slice none 0 0]) 52)); (have hzv : v2.heap.size ≤ vx.heap.size := XB.size); (have hgj : g0 ≠ vx.heap.size := by omega); (replace OW := World.ownsRow.alloc OW (.cells (#[.int .i64 0, .int .i64 0, .int .i64 0, .int .i64 0, .int .i64 0, .int .i64 0, .int .i64 0, .int .i64 0, .int .i64 0, .int .i64 0, .slice none 0 0, .slice none 0 0, .int .i64 0, .slice none 0 0, .slice none 0 0, .int .i64 0, .slice none 0 0, .slice none 0 0]) 52)); (replace hgl : g0 < (vx.alloc (.cells (#[.int .i64 0, .int .i64 0, .int .i64 0, .int .i64 0, .int .i64 0, .int .i64 0, .int .i64 0, .int .i64 0, .int .i64 0, .int .i64 0, .slice none 0 0, .slice none 0 0, .int .i64 0, .slice none 0 0, .slice none 0 0, .int .i64 0, .slice none 0 0, .slice none 0 0]) 52)).heap.size := Nat.lt_of_lt_of_le hgl NL.size); (replace XB := XB.trans (NL.mono XB.size)); (clear NL); (generalize vx.alloc (.cells (#[.int .i64 0, .int .i64 0, .int .i64 0, .int .i64 0, .int .i64 0, .int .i64 0, .int .i64 0, .int .i64 0, .int .i64 0, .int .i64 0, .slice none 0 0, .slice none 0 0, .int .i64 0, .slice none 0 0, .slice none 0 0, .int .i64 0, .slice none 0 0, .slice none 0 0]) 52) = vy at *); (generalize vx.heap.size = jz at *); (generalize vy = vx at *)
     refine hK.out _ _ ?_ (fun hHeld => ?_)
     ·first | exact SK.out _ XB | exact SK.out _ zD | exact SK.out _ XF
     clear hK K
     (try simp only [zA])
     refine zQ 3 fun K hK => ?_
     (obtain ⟨v9, w9, hr9, O9, hg9, h39⟩ := bA vx 29 g0 LB _ OW la n lc (SL.out vx (B.trans (XB.mono B.size))) HZL.out hn (by omega)); (obtain ⟨a9, c9, rfl, -, -, -⟩ := aS O9); (refine aW rfl _ _ 29 rfl (.slice (some ⟨g0, 0, none⟩) 0 0) (.slice la n lc) rfl rfl ⟨_, w9, hr9, ?_⟩); (have NB := az OW hg9 (by omega)); (have NL : Below v2.heap.size vx w9 := NB.mono hgv); (have Q9 : Rwo w9 v2.heap.size w9.heap.size 4 1 a9 n c9 (boG LB) := (bt O9).low hgv); (have K9 : RwK w9 jz v2.heap.size 4 1 a9 n c9 (boG LB) := ⟨Q9, fun g hg => by (have q := h39 g hg); (have q1 := Z.1); (simp [Value.ownBlock] at q); omega⟩); (replace Z := Z.kept hg9 (by simp [Value.ownBlock]; omega)); (clear Q9); (replace XB := XB.trans NL); (clear NL NB hr9 O9 hg9 h39 OW); (generalize w9 = vx at *); (have hst : (storeCells ⟨jz, 0, none⟩ ([.int .i64 y.dn, .int .i64 y.dd, .int .i64 y.li, .int .i64 y.le, .int .i64 y.pt, .int .i64 y.ag, .int .i64 y.ke, .int .i64 y.lg, .int .i64 y.s, .int .i64 y.g, .slice p2 y.m d2, .slice a9 n c9, .int .i64 0, .slice none 0 0, .slice none 0 0, .int .i64 0, .slice none 0 0, .slice none 0 0])).run Tryz.prog vx = .ok () (ah vx jz 0 [.int .i64 y.dn, .int .i64 y.dd, .int .i64 y.li, .int .i64 y.le, .int .i64 y.pt, .int .i64 y.ag, .int .i64 y.ke, .int .i64 y.lg, .int .i64 y.s, .int .i64 y.g, .slice p2 y.m d2, .slice a9 n c9, .int .i64 0, .slice none 0 0, .slice none 0 0, .int .i64 0, .slice none 0 0, .slice none 0 0]) := Bo.store (P := Tryz.prog) (b := 0) [.int .i64 y.dn, .int .i64 y.dd, .int .i64 y.li, .int .i64 y.le, .int .i64 y.pt, .int .i64 y.ag, .int .i64 y.ke, .int .i64 y.lg, .int .i64 y.s, .int .i64 y.g, .slice p2 y.m d2, .slice a9 n c9, .int .i64 0, .slice none 0 0, .slice none 0 0, .int .i64 0, .slice none 0 0, .slice none 0 0] 0 0 Z rfl (show 0 + 18 ≤ 18 by decide) (List.forall_mem_cons.2 ⟨rfl, (List.forall_mem_cons.2 ⟨rfl, (List.forall_mem_cons.2 ⟨rfl, (List.forall_mem_cons.2 ⟨rfl, (List.forall_mem_cons.2 ⟨rfl, (List.forall_mem_cons.2 ⟨rfl, (List.forall_mem_cons.2 ⟨rfl, (List.forall_mem_cons.2 ⟨rfl, (List.forall_mem_cons.2 ⟨rfl, (List.forall_mem_cons.2 ⟨rfl, (List.forall_mem_cons.2 ⟨rfl, (List.forall_mem_cons.2 ⟨rfl, (List.forall_mem_cons.2 ⟨rfl, (List.forall_mem_cons.2 ⟨rfl, (List.forall_mem_cons.2 ⟨rfl, (List.forall_mem_cons.2 ⟨rfl, (List.forall_mem_cons.2 ⟨rfl, (List.forall_mem_cons.2 ⟨rfl, fun _ h => nomatch h⟩)⟩)⟩)⟩)⟩)⟩)⟩)⟩)⟩)⟩)⟩)⟩)⟩)⟩)⟩)⟩)⟩)⟩)); (have ZF : Bo (ah vx jz 0 [.int .i64 y.dn, .int .i64 y.dd, .int .i64 y.li, .int .i64 y.le, .int .i64 y.pt, .int .i64 y.ag, .int .i64 y.ke, .int .i64 y.lg, .int .i64 y.s, .int .i64 y.g, .slice p2 y.m d2, .slice a9 n c9, .int .i64 0, .slice none 0 0, .slice none 0 0, .int .i64 0, .slice none 0 0, .slice none 0 0]) jz #[.int .i64 y.dn, .int .i64 y.dd, .int .i64 y.li, .int .i64 y.le, .int .i64 y.pt, .int .i64 y.ag, .int .i64 y.ke, .int .i64 y.lg, .int .i64 y.s, .int .i64 y.g, .slice p2 y.m d2, .slice a9 n c9, .int .i64 0, .slice none 0 0, .slice none 0 0, .int .i64 0, .slice none 0 0, .slice none 0 0] := Z.putW (U := #[.int .i64 y.dn, .int .i64 y.dd, .int .i64 y.li, .int .i64 y.le, .int .i64 y.pt, .int .i64 y.ag, .int .i64 y.ke, .int .i64 y.lg, .int .i64 y.s, .int .i64 y.g, .slice p2 y.m d2, .slice a9 n c9, .int .i64 0, .slice none 0 0, .slice none 0 0, .int .i64 0, .slice none 0 0, .slice none 0 0]) rfl); (have XF : Below v2.heap.size v2 (ah vx jz 0 [.int .i64 y.dn, .int .i64 y.dd, .int .i64 y.li, .int .i64 y.le, .int .i64 y.pt, .int .i64 y.ag, .int .i64 y.ke, .int .i64 y.lg, .int .i64 y.s, .int .i64 y.g, .slice p2 y.m d2, .slice a9 n c9, .int .i64 0, .slice none 0 0, .slice none 0 0, .int .i64 0, .slice none 0 0, .slice none 0 0]) := ai (k := jz) [.int .i64 y.dn, .int .i64 y.dd, .int .i64 y.li, .int .i64 y.le, .int .i64 y.pt, .int .i64 y.ag, .int .i64 y.ke, .int .i64 y.lg, .int .i64 y.s, .int .i64 y.g, .slice p2 y.m d2, .slice a9 n c9, .int .i64 0, .slice none 0 0, .slice none 0 0, .int .i64 0, .slice none 0 0, .slice none 0 0] v2 vx 0 XB hzv); (have KF : RwK (ah vx jz 0 [.int .i64 y.dn, .int .i64 y.dd, .int .i64 y.li, .int .i64 y.le, .int .i64 y.pt, .int .i64 y.ag, .int .i64 y.ke, .int .i64 y.lg, .int .i64 y.s, .int .i64 y.g, .slice p2 y.m d2, .slice a9 n c9, .int .i64 0, .slice none 0 0, .slice none 0 0, .int .i64 0, .slice none 0 0, .slice none 0 0]) jz v2.heap.size 4 1 a9 n c9 (boG LB) := K9.put (af [.int .i64 y.dn, .int .i64 y.dd, .int .i64 y.li, .int .i64 y.le, .int .i64 y.pt, .int .i64 y.ag, .int .i64 y.ke, .int .i64 y.lg, .int .i64 y.s, .int .i64 y.g, .slice p2 y.m d2, .slice a9 n c9, .int .i64 0, .slice none 0 0, .slice none 0 0, .int .i64 0, .slice none 0 0, .slice none 0 0] vx 0 jz)); (generalize ah vx jz 0 [.int .i64 y.dn, .int .i64 y.dd, .int .i64 y.li, .int .i64 y.le, .int .i64 y.pt, .int .i64 y.ag, .int .i64 y.ke, .int .i64 y.lg, .int .i64 y.s, .int .i64 y.g, .slice p2 y.m d2, .slice a9 n c9, .int .i64 0, .slice none 0 0, .slice none 0 0, .int .i64 0, .slice none 0 0, .slice none 0 0] = vf at *)
     refine hK.out _ _ ?_ (fun hHeld => ?_)
     ·first | exact SK.out _ XB | exact SK.out _ zD | exact SK.out _ XF
     clear hK K
     (try simp only [zA])
     refine wpAnyH_take (i := 4) (v := ?_) (by rw [List.getElem?_toArray]; rfl) (by kernel_rfl) (by kernel_rfl) (by kernel_rfl) (by intro _ _ _ h; exact h) (Or.inl ⟨by rfl, ?_⟩) (by assumption) ?_
     rotate_left
     ·(intro w hSw; refine bn 52 #[(0, .tmp 16), (1, .tmp 19)] [(0, .agg #[.int .i64 y.dn, .int .i64 y.dd, .int .i64 y.li, .int .i64 y.le, .int .i64 y.pt, .int .i64 y.ag, .int .i64 y.ke, .int .i64 y.lg, .int .i64 y.s, .int .i64 y.g, .slice p2 y.m d2]), (1, .slice a9 n c9)] #[.int .i64 y.dn, .int .i64 y.dd, .int .i64 y.li, .int .i64 y.le, .int .i64 y.pt, .int .i64 y.ag, .int .i64 y.ke, .int .i64 y.lg, .int .i64 y.s, .int .i64 y.g, .slice p2 y.m d2, .slice a9 n c9, .int .i64 0, .slice none 0 0, .slice none 0 0, .int .i64 0, .slice none 0 0, .slice none 0 0] (dm y p2 a9 d2 n c9) ?_ ?_ <;> rfl)
     (try simp only [zA])
     refine zQ 6 fun K hK => ?_
     go_simp
     refine hK.out _ _ ?_ (fun hHeld => ?_)
     ·first | exact SK.out _ XB | exact SK.out _ zD | exact SK.out _ XF
     clear hK K
     (try simp only [zA])
     refine wpAnyH_done (by kernel_rfl) ?_ _
     go_wp2_with (rw [hst])
     go_meet
     case rel => exact ⟨jz, a9, c9, rfl, ZF, hzv, KF, XF⟩
   ·go_simp
    (have Z := Bo.new vx (#[.int .i64 0, .int .i64 0, .int .i64 0, .int .i64 0, .int .i64 0, .int .i64 0, .int .i64 0, .int .i64 0, .int .i64 0, .int .i64 0, .slice none 0 0, .slice none 0 0, .int .i64 0, .slice none 0 0, .slice none 0 0, .int .i64 0, .slice none 0 0, .slice none 0 0]) 52); (have NL := Below.nw vx (.cells (#[.int .i64 0, .int .i64 0, .int .i64 0, .int .i64 0, .int .i64 0, .int .i64 0, .int .i64 0, .int .i64 0, .int .i64 0, .int .i64 0, .slice none 0 0, .slice none 0 0, .int .i64 0, .slice none 0 0, .slice none 0 0, .int .i64 0, .slice none 0 0, .slice none 0 0]) 52)); (have hzv : v2.heap.size ≤ vx.heap.size := XB.size); (replace XB := XB.trans (NL.mono XB.size)); (clear NL); (generalize vx.alloc (.cells (#[.int .i64 0, .int .i64 0, .int .i64 0, .int .i64 0, .int .i64 0, .int .i64 0, .int .i64 0, .int .i64 0, .int .i64 0, .int .i64 0, .slice none 0 0, .slice none 0 0, .int .i64 0, .slice none 0 0, .slice none 0 0, .int .i64 0, .slice none 0 0, .slice none 0 0]) 52) = vy at *); (generalize vx.heap.size = jz at *); (generalize vy = vx at *)
    refine hK.out _ _ ?_ (fun hHeld => ?_)
    ·first | exact SK.out _ XB | exact SK.out _ zD | exact SK.out _ XF
    clear hK K
    (try simp only [zA])
    refine zQ 1 fun K hK => ?_
    go_simp
    (have OW : (vx.alloc (.cells #[] 4)).ownsRow vx.heap.size 4 1 (.slice (some ⟨vx.heap.size, 0, none⟩) 0 0) 0 ([] : List Value) := World.ownsRow_made vx #[] 0 (Nat.le_refl _) (by simp [maxLen]) (by simp)); (have hgv : v2.heap.size ≤ vx.heap.size := XB.size); (have NL := Below.nw vx (.cells #[] 4)); (have hgl : vx.heap.size < (vx.alloc (.cells #[] 4)).heap.size := by simp); (have hgj : vx.heap.size ≠ jz := by (have q := Z.1); omega); (replace Z := Z.below NL); (replace XB := XB.trans (NL.mono XB.size)); (clear NL); (generalize vx.alloc (.cells #[] 4) = vy at *); (generalize vx.heap.size = g0 at *); (generalize vy = vx at *)
    refine hK.out _ _ ?_ (fun hHeld => ?_)
    ·first | exact SK.out _ XB | exact SK.out _ zD | exact SK.out _ XF
    clear hK K
    (try simp only [zA])
    refine zQ 3 fun K hK => ?_
    (obtain ⟨v9, w9, hr9, O9, hg9, h39⟩ := bA vx 29 g0 LB _ OW la n lc (SL.out vx (B.trans (XB.mono B.size))) HZL.out hn (by omega)); (obtain ⟨a9, c9, rfl, -, -, -⟩ := aS O9); (refine aW rfl _ _ 29 rfl (.slice (some ⟨g0, 0, none⟩) 0 0) (.slice la n lc) rfl rfl ⟨_, w9, hr9, ?_⟩); (have NB := az OW hg9 (by omega)); (have NL : Below v2.heap.size vx w9 := NB.mono hgv); (have Q9 : Rwo w9 v2.heap.size w9.heap.size 4 1 a9 n c9 (boG LB) := (bt O9).low hgv); (have K9 : RwK w9 jz v2.heap.size 4 1 a9 n c9 (boG LB) := ⟨Q9, fun g hg => by (have q := h39 g hg); (have q1 := Z.1); (simp [Value.ownBlock] at q); omega⟩); (replace Z := Z.kept hg9 (by simp [Value.ownBlock]; omega)); (clear Q9); (replace XB := XB.trans NL); (clear NL NB hr9 O9 hg9 h39 OW); (generalize w9 = vx at *); (have hst : (storeCells ⟨jz, 0, none⟩ ([.int .i64 y.dn, .int .i64 y.dd, .int .i64 y.li, .int .i64 y.le, .int .i64 y.pt, .int .i64 y.ag, .int .i64 y.ke, .int .i64 y.lg, .int .i64 y.s, .int .i64 y.g, .slice p2 y.m d2, .slice a9 n c9, .int .i64 0, .slice none 0 0, .slice none 0 0, .int .i64 0, .slice none 0 0, .slice none 0 0])).run Tryz.prog vx = .ok () (ah vx jz 0 [.int .i64 y.dn, .int .i64 y.dd, .int .i64 y.li, .int .i64 y.le, .int .i64 y.pt, .int .i64 y.ag, .int .i64 y.ke, .int .i64 y.lg, .int .i64 y.s, .int .i64 y.g, .slice p2 y.m d2, .slice a9 n c9, .int .i64 0, .slice none 0 0, .slice none 0 0, .int .i64 0, .slice none 0 0, .slice none 0 0]) := Bo.store (P := Tryz.prog) (b := 0) [.int .i64 y.dn, .int .i64 y.dd, .int .i64 y.li, .int .i64 y.le, .int .i64 y.pt, .int .i64 y.ag, .int .i64 y.ke, .int .i64 y.lg, .int .i64 y.s, .int .i64 y.g, .slice p2 y.m d2, .slice a9 n c9, .int .i64 0, .slice none 0 0, .slice none 0 0, .int .i64 0, .slice none 0 0, .slice none 0 0] 0 0 Z rfl (show 0 + 18 ≤ 18 by decide) (List.forall_mem_cons.2 ⟨rfl, (List.forall_mem_cons.2 ⟨rfl, (List.forall_mem_cons.2 ⟨rfl, (List.forall_mem_cons.2 ⟨rfl, (List.forall_mem_cons.2 ⟨rfl, (List.forall_mem_cons.2 ⟨rfl, (List.forall_mem_cons.2 ⟨rfl, (List.forall_mem_cons.2 ⟨rfl, (List.forall_mem_cons.2 ⟨rfl, (List.forall_mem_cons.2 ⟨rfl, (List.forall_mem_cons.2 ⟨rfl, (List.forall_mem_cons.2 ⟨rfl, (List.forall_mem_cons.2 ⟨rfl, (List.forall_mem_cons.2 ⟨rfl, (List.forall_mem_cons.2 ⟨rfl, (List.forall_mem_cons.2 ⟨rfl, (List.forall_mem_cons.2 ⟨rfl, (List.forall_mem_cons.2 ⟨rfl, fun _ h => nomatch h⟩)⟩)⟩)⟩)⟩)⟩)⟩)⟩)⟩)⟩)⟩)⟩)⟩)⟩)⟩)⟩)⟩)⟩)); (have ZF : Bo (ah vx jz 0 [.int .i64 y.dn, .int .i64 y.dd, .int .i64 y.li, .int .i64 y.le, .int .i64 y.pt, .int .i64 y.ag, .int .i64 y.ke, .int .i64 y.lg, .int .i64 y.s, .int .i64 y.g, .slice p2 y.m d2, .slice a9 n c9, .int .i64 0, .slice none 0 0, .slice none 0 0, .int .i64 0, .slice none 0 0, .slice none 0 0]) jz #[.int .i64 y.dn, .int .i64 y.dd, .int .i64 y.li, .int .i64 y.le, .int .i64 y.pt, .int .i64 y.ag, .int .i64 y.ke, .int .i64 y.lg, .int .i64 y.s, .int .i64 y.g, .slice p2 y.m d2, .slice a9 n c9, .int .i64 0, .slice none 0 0, .slice none 0 0, .int .i64 0, .slice none 0 0, .slice none 0 0] := Z.putW (U := #[.int .i64 y.dn, .int .i64 y.dd, .int .i64 y.li, .int .i64 y.le, .int .i64 y.pt, .int .i64 y.ag, .int .i64 y.ke, .int .i64 y.lg, .int .i64 y.s, .int .i64 y.g, .slice p2 y.m d2, .slice a9 n c9, .int .i64 0, .slice none 0 0, .slice none 0 0, .int .i64 0, .slice none 0 0, .slice none 0 0]) rfl); (have XF : Below v2.heap.size v2 (ah vx jz 0 [.int .i64 y.dn, .int .i64 y.dd, .int .i64 y.li, .int .i64 y.le, .int .i64 y.pt, .int .i64 y.ag, .int .i64 y.ke, .int .i64 y.lg, .int .i64 y.s, .int .i64 y.g, .slice p2 y.m d2, .slice a9 n c9, .int .i64 0, .slice none 0 0, .slice none 0 0, .int .i64 0, .slice none 0 0, .slice none 0 0]) := ai (k := jz) [.int .i64 y.dn, .int .i64 y.dd, .int .i64 y.li, .int .i64 y.le, .int .i64 y.pt, .int .i64 y.ag, .int .i64 y.ke, .int .i64 y.lg, .int .i64 y.s, .int .i64 y.g, .slice p2 y.m d2, .slice a9 n c9, .int .i64 0, .slice none 0 0, .slice none 0 0, .int .i64 0, .slice none 0 0, .slice none 0 0] v2 vx 0 XB hzv); (have KF : RwK (ah vx jz 0 [.int .i64 y.dn, .int .i64 y.dd, .int .i64 y.li, .int .i64 y.le, .int .i64 y.pt, .int .i64 y.ag, .int .i64 y.ke, .int .i64 y.lg, .int .i64 y.s, .int .i64 y.g, .slice p2 y.m d2, .slice a9 n c9, .int .i64 0, .slice none 0 0, .slice none 0 0, .int .i64 0, .slice none 0 0, .slice none 0 0]) jz v2.heap.size 4 1 a9 n c9 (boG LB) := K9.put (af [.int .i64 y.dn, .int .i64 y.dd, .int .i64 y.li, .int .i64 y.le, .int .i64 y.pt, .int .i64 y.ag, .int .i64 y.ke, .int .i64 y.lg, .int .i64 y.s, .int .i64 y.g, .slice p2 y.m d2, .slice a9 n c9, .int .i64 0, .slice none 0 0, .slice none 0 0, .int .i64 0, .slice none 0 0, .slice none 0 0] vx 0 jz)); (generalize ah vx jz 0 [.int .i64 y.dn, .int .i64 y.dd, .int .i64 y.li, .int .i64 y.le, .int .i64 y.pt, .int .i64 y.ag, .int .i64 y.ke, .int .i64 y.lg, .int .i64 y.s, .int .i64 y.g, .slice p2 y.m d2, .slice a9 n c9, .int .i64 0, .slice none 0 0, .slice none 0 0, .int .i64 0, .slice none 0 0, .slice none 0 0] = vf at *)
    refine hK.out _ _ ?_ (fun hHeld => ?_)
    ·first | exact SK.out _ XB | exact SK.out _ zD | exact SK.out _ XF
    clear hK K
    (try simp only [zA])
    refine wpAnyH_take (i := 4) (v := ?_) (by rw [List.getElem?_toArray]; rfl) (by kernel_rfl) (by kernel_rfl) (by kernel_rfl) (by intro _ _ _ h; exact h) (Or.inl ⟨by rfl, ?_⟩) (by assumption) ?_
    rotate_left
    ·(intro w hSw; refine bn 52 #[(0, .tmp 16), (1, .tmp 19)] [(0, .agg #[.int .i64 y.dn, .int .i64 y.dd, .int .i64 y.li, .int .i64 y.le, .int .i64 y.pt, .int .i64 y.ag, .int .i64 y.ke, .int .i64 y.lg, .int .i64 y.s, .int .i64 y.g, .slice p2 y.m d2]), (1, .slice a9 n c9)] #[.int .i64 y.dn, .int .i64 y.dd, .int .i64 y.li, .int .i64 y.le, .int .i64 y.pt, .int .i64 y.ag, .int .i64 y.ke, .int .i64 y.lg, .int .i64 y.s, .int .i64 y.g, .slice p2 y.m d2, .slice a9 n c9, .int .i64 0, .slice none 0 0, .slice none 0 0, .int .i64 0, .slice none 0 0, .slice none 0 0] (dm y p2 a9 d2 n c9) ?_ ?_ <;> rfl)
    (try simp only [zA])
    refine zQ 6 fun K hK => ?_
    go_simp
    refine hK.out _ _ ?_ (fun hHeld => ?_)
    ·first | exact SK.out _ XB | exact SK.out _ zD | exact SK.out _ XF
    clear hK K
    (try simp only [zA])
    refine wpAnyH_done (by kernel_rfl) ?_ _
    go_wp2_with (rw [hst])
    go_meet
    case rel => exact ⟨jz, a9, c9, rfl, ZF, hzv, KF, XF⟩
  case rest =>
  obtain ⟨k, a9, c9, rfl, O, hk, PL, hb⟩ := hcut
  clear SK C SL HZL hgt
  generalize wc = u at *
  have hbs := hb.size
  have PS : RwK u k (w.heap.size + 2) 173 2 p2 y.m d2 (ak y.PM) := ⟨(P1.below hb).wide (by omega) (by omega), fun g hg => by have q := (P1.lt hg).2.1; omega⟩
  replace PL : RwK u k (w.heap.size + 2) 4 1 a9 n c9 (boG LB) := ⟨PL.1.wide (by omega) (Nat.le_refl _), PL.2⟩
  replace R := R.below hb
  replace B := B.trans (hb.mono B.size)
  have hkk : w.heap.size + 1 < k := by omega
  clear hb P1
  have PI := dP u k (w.heap.size + 2) 3 1 (itG fun _ => 0)
  have PN := dP u k (w.heap.size + 2) 98 16 nzF
  go_wp2_with fail
  go_loopw [7] (fun i wr => ∃ (r : Nat) (ca : Option Addr) (cc : Nat) (na : Option Addr) (nk : Nat), r ≤ n ∧ i = .int .i64 (r : Int) ∧ Bo wr (w.heap.size + 1) #[.int .i64 0, .int .i64 0, .int .i64 0, .int .i64 0, .int .i64 0, .int .i64 0, .int .i64 0, .int .i64 0, .int .i64 0, .int .i64 0, .slice none 0 0, .slice none 0 0, .int .i64 0, .slice none 0 0, .slice none 0 0, .int .i64 0, .slice none 0 0, .slice none 0 0] ∧ Bo wr k #[.int .i64 y.dn, .int .i64 y.dd, .int .i64 y.li, .int .i64 y.le, .int .i64 y.pt, .int .i64 y.ag, .int .i64 y.ke, .int .i64 y.lg, .int .i64 y.s, .int .i64 y.g, .slice p2 y.m d2, .slice a9 n c9, .int .i64 0, .slice ca r cc, .slice na r nk, .int .i64 0, .slice none 0 0, .slice none 0 0] ∧ RwK wr k (w.heap.size + 2) 4 1 a9 n c9 (boG LB) ∧ RwK wr k (w.heap.size + 2) 173 2 p2 y.m d2 (ak y.PM) ∧ RwK wr k (w.heap.size + 2) 3 1 ca r cc (itG fun _ => 0) ∧ RwK wr k (w.heap.size + 2) 98 16 na r nk nzF ∧ Below w.heap.size w wr) (fun i _ => n - (intOf i).toNat)
  case atStart => exact ⟨0, none, 0, none, 0, Nat.zero_le _, rfl, R, O, PL, PS, PI, PN, B⟩
  case round =>
   clear R O PL PS PI PN B hbs
   obtain ⟨r, ca, cc, na, nk, hr, rfl, R, O, PL, PS, PI, PN, B⟩ := hrel
   by_cases hlt : r < n
   ·have hli : (r : Int) < (n : Int) := by omega
    have hcl : wr.cell? ⟨k, 13, none⟩ = some (.slice ca r cc) := O.cell rfl
    have hkw : k < wr.heap.size := O.1
    go_upto_region 9 with (first | rw [hst] | (at_builtin; refine jl rfl _ _ rfl k (w.heap.size + 2) r ca cc rfl PI rfl (by omega) (by omega) hkw ?_; intro ca2 cc2 w8 PI8 hg8; (have O8 := PI.bo hg8 O (.inl rfl)); (have R8 := PI.bo hg8 R (.inr (by omega))); (have PL8 := PL.kept PI (by decide) hg8); (have PS8 := PS.kept PI (by decide) hg8); (have PN8 := PN.kept PI (by decide) hg8); (have B8 := B.trans (PI.bel hg8 (B := w.heap.size) (by omega) (by omega))); (have hst := Bo.store (P := Tryz.prog) (b := 13) [.slice ca2 (r + 1) cc2] 13 0 O8 rfl (show 13 + 1 ≤ 18 by decide) (List.forall_mem_cons.2 ⟨rfl, fun _ h => nomatch h⟩))))
    clear hst hcl O R PL PS PI PN B hg8 hkw
    have hb := af [.slice ca2 (r + 1) cc2] w8 13 k
    have O : Bo (ah w8 k 13 [.slice ca2 (r + 1) cc2]) k #[.int .i64 y.dn, .int .i64 y.dd, .int .i64 y.li, .int .i64 y.le, .int .i64 y.pt, .int .i64 y.ag, .int .i64 y.ke, .int .i64 y.lg, .int .i64 y.s, .int .i64 y.g, .slice p2 y.m d2, .slice a9 n c9, .int .i64 0, .slice ca2 (r + 1) cc2, .slice na r nk, .int .i64 0, .slice none 0 0, .slice none 0 0] := Bo.put [.slice ca2 (r + 1) cc2] 13 O8
    have R := R8.btw hb (.inl hkk)
    have PL := PL8.put hb
    have PS := PS8.put hb
    have PI := PI8.put hb
    have PN := PN8.put hb
    have B := ai (k := k) [.slice ca2 (r + 1) cc2] w w8 13 B8 (by omega)
    clear hb O8 R8 PL8 PS8 PI8 PN8 B8
    generalize ah w8 k 13 [.slice ca2 (r + 1) cc2] = wq at *
    replace CN := fun v => CN v r
    refine wp_region_held_drew (S := (fun _ => True)) (by kernel_rfl) ?_ (fun hHeld => ?_)
    ·trivial
    have XB : Below wq.heap.size wq wq.drew := Below.drew (Below.refl _ _)
    generalize wq.drew = vx at *
    have hcl : vx.cell? ⟨k, 14, none⟩ = some (.slice na r nk) := (O.below XB).cell rfl
    have hns : (nzA (r : Int)).size = 16 := rfl
    have hfo := iN (r : Int)
    refine zTk 0 ?_
    refine zTk 2 ?_
    refine wpAnyH_ready (rs := [1, 3]) (by kernel_rfl) (by simp) ?_
    refine (zCc (fun K hK => ?_) (zR fun K hK => ?_))
    ·go_simp
     refine hK.out _ _ ?_ (fun hHeld => ?_)
     ·trivial
     clear hK K
     (try simp only [zA])
     refine zQ 3 fun K hK => ?_
     go_simp
     refine (CN vx).mono ?_; rintro ee vs ⟨rfl, hbl⟩; (replace XB := XB.trans (hbl.mono XB.size)); (clear hbl); (generalize vs = vx at *); (have hcl : vx.cell? ⟨k, 14, none⟩ = some (.slice na r nk) := (O.below XB).cell rfl)
     (try go_wp2_with fail)
     refine hK.out _ _ ?_ (fun hHeld => ?_)
     ·trivial
     clear hK K
     (try simp only [zA])
     refine zQ 4 fun K hK => ?_
     go_simp
     (have XA := XB.trans ((Below.nw vx (.cells (nzA (r : Int)) 98)).mono XB.size)); (have hcm : (vx.alloc (.cells (nzA (r : Int)) 98)).cell? ⟨k, 14, none⟩ = some (.slice na r nk) := (O.below XA).cell rfl)
     refine hK.out _ _ ?_ (fun hHeld => ?_)
     ·trivial
     clear hK K
     (try simp only [zA])
     refine zQ 5 fun K hK => ?_
     (have PX := PN.below XB); (have hkx : k < vx.heap.size := Nat.lt_of_lt_of_le O.1 XB.size); (have hsx : w.heap.size + 2 ≤ vx.heap.size := by (have q := XB.size); (have q2 := O.1); omega); (obtain ⟨na2, nk2, w9, hr9, PN9, hg9⟩ := aV vx 46 k (w.heap.size + 2) r na nk PX (by omega) hsx hkx); (refine aW rfl _ _ 46 rfl (.slice na r nk) (.slice (some ⟨vx.heap.size, 0, none⟩) 1 1) rfl rfl ⟨_, w9, hr9, ?_⟩); (have O9 := PX.bo hg9 (O.below XB) (.inl rfl)); (have R9 := PX.bo hg9 (R.below XB) (.inr (by omega))); (have PL9 := (PL.below XB).kept PX (by decide) hg9); (have PS9 := (PS.below XB).kept PX (by decide) hg9); (have PI9 := (PI.below XB).kept PX (by decide) hg9); (have B9 := (B.trans (XB.mono B.size)).trans (PX.bel hg9 (B := w.heap.size) (by omega) (by omega))); (have hst := Bo.store (P := Tryz.prog) (b := 14) [.slice na2 (r + 1) nk2] 14 0 O9 rfl (show 14 + 1 ≤ 18 by decide) (List.forall_mem_cons.2 ⟨rfl, fun _ h => nomatch h⟩)); (have O10 : Bo (ah w9 k 14 [.slice na2 (r + 1) nk2]) k #[.int .i64 y.dn, .int .i64 y.dd, .int .i64 y.li, .int .i64 y.le, .int .i64 y.pt, .int .i64 y.ag, .int .i64 y.ke, .int .i64 y.lg, .int .i64 y.s, .int .i64 y.g, .slice p2 y.m d2, .slice a9 n c9, .int .i64 0, .slice ca2 (r + 1) cc2, .slice na2 (r + 1) nk2, .int .i64 0, .slice none 0 0, .slice none 0 0] := Bo.put [.slice na2 (r + 1) nk2] 14 O9); (have hb9 := af [.slice na2 (r + 1) nk2] w9 14 k); (have R10 := R9.btw hb9 (.inl hkk)); (have PL10 := PL9.put hb9); (have PS10 := PS9.put hb9); (have PI10 := PI9.put hb9); (have PN10 := PN9.put hb9); (have B10 := ai (k := k) [.slice na2 (r + 1) nk2] w w9 14 B9 (by omega)); (clear hb9); (generalize ah w9 k 14 [.slice na2 (r + 1) nk2] = wf at *)
     refine hK.out _ _ ?_ (fun hHeld => ?_)
     ·trivial
     clear hK K
     (try simp only [zA])
     refine zTk 6 ?_
     refine zQ 7 fun K hK => ?_
     go_simp
     refine hK.out _ _ ?_ (fun hHeld => ?_)
     ·trivial
     clear hK K
     (try simp only [zA])
     refine wpAnyH_done (by kernel_rfl) ?_ _
     go_wp2_with fail
     go_roundw
     case rel => exact ⟨r + 1, ca2, cc2, na2, nk2, by omega, by go_num, R10, O10, PL10, PS10, PI10, PN10, B10⟩
     case measure => simp [intOf]; omega
    ·go_simp
     refine (CN vx).mono ?_; rintro ee vs ⟨rfl, hbl⟩; (replace XB := XB.trans (hbl.mono XB.size)); (clear hbl); (generalize vs = vx at *); (have hcl : vx.cell? ⟨k, 14, none⟩ = some (.slice na r nk) := (O.below XB).cell rfl)
     (try go_wp2_with fail)
     refine hK.out _ _ ?_ (fun hHeld => ?_)
     ·trivial
     clear hK K
     (try simp only [zA])
     refine wpAnyH_ready (rs := [1, 4]) (by kernel_rfl) (by simp) ?_
     refine (zCc (fun K hK => ?_) (zR fun K hK => ?_))
     ·go_simp
      refine hK.out _ _ ?_ (fun hHeld => ?_)
      ·trivial
      clear hK K
      (try simp only [zA])
      refine zQ 4 fun K hK => ?_
      go_simp
      (have XA := XB.trans ((Below.nw vx (.cells (nzA (r : Int)) 98)).mono XB.size)); (have hcm : (vx.alloc (.cells (nzA (r : Int)) 98)).cell? ⟨k, 14, none⟩ = some (.slice na r nk) := (O.below XA).cell rfl)
      refine hK.out _ _ ?_ (fun hHeld => ?_)
      ·trivial
      clear hK K
      (try simp only [zA])
      refine zQ 5 fun K hK => ?_
      (have PX := PN.below XB); (have hkx : k < vx.heap.size := Nat.lt_of_lt_of_le O.1 XB.size); (have hsx : w.heap.size + 2 ≤ vx.heap.size := by (have q := XB.size); (have q2 := O.1); omega); (obtain ⟨na2, nk2, w9, hr9, PN9, hg9⟩ := aV vx 46 k (w.heap.size + 2) r na nk PX (by omega) hsx hkx); (refine aW rfl _ _ 46 rfl (.slice na r nk) (.slice (some ⟨vx.heap.size, 0, none⟩) 1 1) rfl rfl ⟨_, w9, hr9, ?_⟩); (have O9 := PX.bo hg9 (O.below XB) (.inl rfl)); (have R9 := PX.bo hg9 (R.below XB) (.inr (by omega))); (have PL9 := (PL.below XB).kept PX (by decide) hg9); (have PS9 := (PS.below XB).kept PX (by decide) hg9); (have PI9 := (PI.below XB).kept PX (by decide) hg9); (have B9 := (B.trans (XB.mono B.size)).trans (PX.bel hg9 (B := w.heap.size) (by omega) (by omega))); (have hst := Bo.store (P := Tryz.prog) (b := 14) [.slice na2 (r + 1) nk2] 14 0 O9 rfl (show 14 + 1 ≤ 18 by decide) (List.forall_mem_cons.2 ⟨rfl, fun _ h => nomatch h⟩)); (have O10 : Bo (ah w9 k 14 [.slice na2 (r + 1) nk2]) k #[.int .i64 y.dn, .int .i64 y.dd, .int .i64 y.li, .int .i64 y.le, .int .i64 y.pt, .int .i64 y.ag, .int .i64 y.ke, .int .i64 y.lg, .int .i64 y.s, .int .i64 y.g, .slice p2 y.m d2, .slice a9 n c9, .int .i64 0, .slice ca2 (r + 1) cc2, .slice na2 (r + 1) nk2, .int .i64 0, .slice none 0 0, .slice none 0 0] := Bo.put [.slice na2 (r + 1) nk2] 14 O9); (have hb9 := af [.slice na2 (r + 1) nk2] w9 14 k); (have R10 := R9.btw hb9 (.inl hkk)); (have PL10 := PL9.put hb9); (have PS10 := PS9.put hb9); (have PI10 := PI9.put hb9); (have PN10 := PN9.put hb9); (have B10 := ai (k := k) [.slice na2 (r + 1) nk2] w w9 14 B9 (by omega)); (clear hb9); (generalize ah w9 k 14 [.slice na2 (r + 1) nk2] = wf at *)
      refine hK.out _ _ ?_ (fun hHeld => ?_)
      ·trivial
      clear hK K
      (try simp only [zA])
      refine zTk 6 ?_
      refine zQ 7 fun K hK => ?_
      go_simp
      refine hK.out _ _ ?_ (fun hHeld => ?_)
      ·trivial
      clear hK K
      (try simp only [zA])
      refine wpAnyH_done (by kernel_rfl) ?_ _
      go_wp2_with fail
      go_roundw
      case rel => exact ⟨r + 1, ca2, cc2, na2, nk2, by omega, by go_num, R10, O10, PL10, PS10, PI10, PN10, B10⟩
      case measure => simp [intOf]; omega
     ·go_simp
      (have XA := XB.trans ((Below.nw vx (.cells (nzA (r : Int)) 98)).mono XB.size)); (have hcm : (vx.alloc (.cells (nzA (r : Int)) 98)).cell? ⟨k, 14, none⟩ = some (.slice na r nk) := (O.below XA).cell rfl)
      refine hK.out _ _ ?_ (fun hHeld => ?_)
      ·trivial
      clear hK K
      (try simp only [zA])
      refine zQ 1 fun K hK => ?_
      go_simp
      refine hK.out _ _ ?_ (fun hHeld => ?_)
      ·trivial
      clear hK K
      (try simp only [zA])
      refine zQ 5 fun K hK => ?_
      (have PX := PN.below XB); (have hkx : k < vx.heap.size := Nat.lt_of_lt_of_le O.1 XB.size); (have hsx : w.heap.size + 2 ≤ vx.heap.size := by (have q := XB.size); (have q2 := O.1); omega); (obtain ⟨na2, nk2, w9, hr9, PN9, hg9⟩ := aV vx 46 k (w.heap.size + 2) r na nk PX (by omega) hsx hkx); (refine aW rfl _ _ 46 rfl (.slice na r nk) (.slice (some ⟨vx.heap.size, 0, none⟩) 1 1) rfl rfl ⟨_, w9, hr9, ?_⟩); (have O9 := PX.bo hg9 (O.below XB) (.inl rfl)); (have R9 := PX.bo hg9 (R.below XB) (.inr (by omega))); (have PL9 := (PL.below XB).kept PX (by decide) hg9); (have PS9 := (PS.below XB).kept PX (by decide) hg9); (have PI9 := (PI.below XB).kept PX (by decide) hg9); (have B9 := (B.trans (XB.mono B.size)).trans (PX.bel hg9 (B := w.heap.size) (by omega) (by omega))); (have hst := Bo.store (P := Tryz.prog) (b := 14) [.slice na2 (r + 1) nk2] 14 0 O9 rfl (show 14 + 1 ≤ 18 by decide) (List.forall_mem_cons.2 ⟨rfl, fun _ h => nomatch h⟩)); (have O10 : Bo (ah w9 k 14 [.slice na2 (r + 1) nk2]) k #[.int .i64 y.dn, .int .i64 y.dd, .int .i64 y.li, .int .i64 y.le, .int .i64 y.pt, .int .i64 y.ag, .int .i64 y.ke, .int .i64 y.lg, .int .i64 y.s, .int .i64 y.g, .slice p2 y.m d2, .slice a9 n c9, .int .i64 0, .slice ca2 (r + 1) cc2, .slice na2 (r + 1) nk2, .int .i64 0, .slice none 0 0, .slice none 0 0] := Bo.put [.slice na2 (r + 1) nk2] 14 O9); (have hb9 := af [.slice na2 (r + 1) nk2] w9 14 k); (have R10 := R9.btw hb9 (.inl hkk)); (have PL10 := PL9.put hb9); (have PS10 := PS9.put hb9); (have PI10 := PI9.put hb9); (have PN10 := PN9.put hb9); (have B10 := ai (k := k) [.slice na2 (r + 1) nk2] w w9 14 B9 (by omega)); (clear hb9); (generalize ah w9 k 14 [.slice na2 (r + 1) nk2] = wf at *)
      refine hK.out _ _ ?_ (fun hHeld => ?_)
      ·trivial
      clear hK K
      (try simp only [zA])
      refine zTk 6 ?_
      refine zQ 7 fun K hK => ?_
      go_simp
      refine hK.out _ _ ?_ (fun hHeld => ?_)
      ·trivial
      clear hK K
      (try simp only [zA])
      refine wpAnyH_done (by kernel_rfl) ?_ _
      go_wp2_with fail
      go_roundw
      case rel => exact ⟨r + 1, ca2, cc2, na2, nk2, by omega, by go_num, R10, O10, PL10, PS10, PI10, PN10, B10⟩
      case measure => simp [intOf]; omega
   ·obtain rfl : n = r := by omega
    have hli : ¬ (n : Int) < (n : Int) := by omega
    clear CN hlt hr
    have hW : WdW wr #[.int .i64 y.dn, .int .i64 y.dd, .int .i64 y.li, .int .i64 y.le, .int .i64 y.pt, .int .i64 y.ag, .int .i64 y.ke, .int .i64 y.lg, .int .i64 y.s, .int .i64 y.g, .slice p2 y.m d2, .slice a9 n c9, .int .i64 0, .slice ca n cc, .slice na n nk, .int .i64 0, .slice none 0 0, .slice none 0 0] (nwX y n LB) := fm hm hn PS.1.srcC PL.1.srcC PI.1.srcC PN.1.srcC
    have hL := O.load (P := Tryz.prog) (show (#[.int .i64 y.dn, .int .i64 y.dd, .int .i64 y.li, .int .i64 y.le, .int .i64 y.pt, .int .i64 y.ag, .int .i64 y.ke, .int .i64 y.lg, .int .i64 y.s, .int .i64 y.g, .slice p2 y.m d2, .slice a9 n c9, .int .i64 0, .slice ca n cc, .slice na n nk, .int .i64 0, .slice none 0 0, .slice none 0 0] : Array Value).size = 18 from rfl)
    go_wp2_with (rw [hL])
    refine (fx #[.int .i64 y.dn, .int .i64 y.dd, .int .i64 y.li, .int .i64 y.le, .int .i64 y.pt, .int .i64 y.ag, .int .i64 y.ke, .int .i64 y.lg, .int .i64 y.s, .int .i64 y.g, .slice p2 y.m d2, .slice a9 n c9, .int .i64 0, .slice ca n cc, .slice na n nk, .int .i64 0, .slice none 0 0, .slice none 0 0] (nwX y n LB) wr hW (jI y n LB)).mono ?_
    rintro e v8 ⟨rfl, hb⟩
    replace R := R.below hb
    replace O := O.below hb
    replace B := B.trans (hb.mono B.size)
    replace PL := PL.below hb
    replace PS := PS.below hb
    replace PI := PI.below hb
    replace PN := PN.below hb
    clear hb hL hW
    cases hok : aT (nwX y n LB)
    ·have hbB : nwB y n LB = false := by rw [nwB, hok, Bool.and_false]
     have hO : nwO y n LB = zwX := by rw [nwO, hbB]
     clear O PL PS PI PN
     have hst := Bo.store (P := Tryz.prog) (b := 0) [.int .i64 0, .int .i64 0, .int .i64 0, .int .i64 0, .int .i64 0, .int .i64 0, .int .i64 0, .int .i64 0, .int .i64 0, .int .i64 0, .slice none 0 0, .slice none 0 0, .int .i64 0, .slice none 0 0, .slice none 0 0, .int .i64 0, .slice none 0 0, .slice none 0 0] 0 0 R rfl (show 0 + 18 ≤ 18 by decide) (List.forall_mem_cons.2 ⟨rfl, (List.forall_mem_cons.2 ⟨rfl, (List.forall_mem_cons.2 ⟨rfl, (List.forall_mem_cons.2 ⟨rfl, (List.forall_mem_cons.2 ⟨rfl, (List.forall_mem_cons.2 ⟨rfl, (List.forall_mem_cons.2 ⟨rfl, (List.forall_mem_cons.2 ⟨rfl, (List.forall_mem_cons.2 ⟨rfl, (List.forall_mem_cons.2 ⟨rfl, (List.forall_mem_cons.2 ⟨rfl, (List.forall_mem_cons.2 ⟨rfl, (List.forall_mem_cons.2 ⟨rfl, (List.forall_mem_cons.2 ⟨rfl, (List.forall_mem_cons.2 ⟨rfl, (List.forall_mem_cons.2 ⟨rfl, (List.forall_mem_cons.2 ⟨rfl, (List.forall_mem_cons.2 ⟨rfl, fun _ h => nomatch h⟩)⟩)⟩)⟩)⟩)⟩)⟩)⟩)⟩)⟩)⟩)⟩)⟩)⟩)⟩)⟩)⟩)⟩)
     have R2 : Bo (ah v8 (w.heap.size + 1) 0 [.int .i64 0, .int .i64 0, .int .i64 0, .int .i64 0, .int .i64 0, .int .i64 0, .int .i64 0, .int .i64 0, .int .i64 0, .int .i64 0, .slice none 0 0, .slice none 0 0, .int .i64 0, .slice none 0 0, .slice none 0 0, .int .i64 0, .slice none 0 0, .slice none 0 0]) (w.heap.size + 1) #[.int .i64 0, .int .i64 0, .int .i64 0, .int .i64 0, .int .i64 0, .int .i64 0, .int .i64 0, .int .i64 0, .int .i64 0, .int .i64 0, .slice none 0 0, .slice none 0 0, .int .i64 0, .slice none 0 0, .slice none 0 0, .int .i64 0, .slice none 0 0, .slice none 0 0] := R.putW (U := #[.int .i64 0, .int .i64 0, .int .i64 0, .int .i64 0, .int .i64 0, .int .i64 0, .int .i64 0, .int .i64 0, .int .i64 0, .int .i64 0, .slice none 0 0, .slice none 0 0, .int .i64 0, .slice none 0 0, .slice none 0 0, .int .i64 0, .slice none 0 0, .slice none 0 0]) rfl
     have B2 := ai (k := w.heap.size + 1) [.int .i64 0, .int .i64 0, .int .i64 0, .int .i64 0, .int .i64 0, .int .i64 0, .int .i64 0, .int .i64 0, .int .i64 0, .int .i64 0, .slice none 0 0, .slice none 0 0, .int .i64 0, .slice none 0 0, .slice none 0 0, .int .i64 0, .slice none 0 0, .slice none 0 0] w v8 0 B (by omega)
     go_wp2_with (rw [hst])
     clear hst R B
     generalize ah v8 (w.heap.size + 1) 0 [.int .i64 0, .int .i64 0, .int .i64 0, .int .i64 0, .int .i64 0, .int .i64 0, .int .i64 0, .int .i64 0, .int .i64 0, .int .i64 0, .slice none 0 0, .slice none 0 0, .int .i64 0, .slice none 0 0, .slice none 0 0, .int .i64 0, .slice none 0 0, .slice none 0 0] = vz at *
     have hL0 := R2.load (P := Tryz.prog) (show (#[.int .i64 0, .int .i64 0, .int .i64 0, .int .i64 0, .int .i64 0, .int .i64 0, .int .i64 0, .int .i64 0, .int .i64 0, .int .i64 0, .slice none 0 0, .slice none 0 0, .int .i64 0, .slice none 0 0, .slice none 0 0, .int .i64 0, .slice none 0 0, .slice none 0 0] : Array Value).size = 18 from rfl)
     exact bodyPost_ret (v := .tuple #[.agg #[.int .i64 0, .int .i64 0, .int .i64 0, .int .i64 0, .int .i64 0, .int .i64 0, .int .i64 0, .int .i64 0, .int .i64 0, .int .i64 0, .slice none 0 0, .slice none 0 0, .int .i64 0, .slice none 0 0, .slice none 0 0, .int .i64 0, .slice none 0 0, .slice none 0 0], .bool false]) (by simp [results, Tryz.results14, go_sem]; rw [hL0]; rfl) rfl ⟨_, by rw [hbB], by rw [hO]; exact jX _, B2⟩
    ·have hbB : nwB y n LB = true := by rw [nwB, hok, Bool.and_true]; exact decide_eq_true h8
     have hO : nwO y n LB = nwX y n LB := by rw [nwO, hbB]
     have hL := O.load (P := Tryz.prog) (show (#[.int .i64 y.dn, .int .i64 y.dd, .int .i64 y.li, .int .i64 y.le, .int .i64 y.pt, .int .i64 y.ag, .int .i64 y.ke, .int .i64 y.lg, .int .i64 y.s, .int .i64 y.g, .slice p2 y.m d2, .slice a9 n c9, .int .i64 0, .slice ca n cc, .slice na n nk, .int .i64 0, .slice none 0 0, .slice none 0 0] : Array Value).size = 18 from rfl)
     have hst := Bo.store (P := Tryz.prog) (b := 0) [.int .i64 y.dn, .int .i64 y.dd, .int .i64 y.li, .int .i64 y.le, .int .i64 y.pt, .int .i64 y.ag, .int .i64 y.ke, .int .i64 y.lg, .int .i64 y.s, .int .i64 y.g, .slice p2 y.m d2, .slice a9 n c9, .int .i64 0, .slice ca n cc, .slice na n nk, .int .i64 0, .slice none 0 0, .slice none 0 0] 0 0 R rfl (show 0 + 18 ≤ 18 by decide) (List.forall_mem_cons.2 ⟨rfl, (List.forall_mem_cons.2 ⟨rfl, (List.forall_mem_cons.2 ⟨rfl, (List.forall_mem_cons.2 ⟨rfl, (List.forall_mem_cons.2 ⟨rfl, (List.forall_mem_cons.2 ⟨rfl, (List.forall_mem_cons.2 ⟨rfl, (List.forall_mem_cons.2 ⟨rfl, (List.forall_mem_cons.2 ⟨rfl, (List.forall_mem_cons.2 ⟨rfl, (List.forall_mem_cons.2 ⟨rfl, (List.forall_mem_cons.2 ⟨rfl, (List.forall_mem_cons.2 ⟨rfl, (List.forall_mem_cons.2 ⟨rfl, (List.forall_mem_cons.2 ⟨rfl, (List.forall_mem_cons.2 ⟨rfl, (List.forall_mem_cons.2 ⟨rfl, (List.forall_mem_cons.2 ⟨rfl, fun _ h => nomatch h⟩)⟩)⟩)⟩)⟩)⟩)⟩)⟩)⟩)⟩)⟩)⟩)⟩)⟩)⟩)⟩)⟩)⟩)
     have R2 : Bo (ah v8 (w.heap.size + 1) 0 [.int .i64 y.dn, .int .i64 y.dd, .int .i64 y.li, .int .i64 y.le, .int .i64 y.pt, .int .i64 y.ag, .int .i64 y.ke, .int .i64 y.lg, .int .i64 y.s, .int .i64 y.g, .slice p2 y.m d2, .slice a9 n c9, .int .i64 0, .slice ca n cc, .slice na n nk, .int .i64 0, .slice none 0 0, .slice none 0 0]) (w.heap.size + 1) #[.int .i64 y.dn, .int .i64 y.dd, .int .i64 y.li, .int .i64 y.le, .int .i64 y.pt, .int .i64 y.ag, .int .i64 y.ke, .int .i64 y.lg, .int .i64 y.s, .int .i64 y.g, .slice p2 y.m d2, .slice a9 n c9, .int .i64 0, .slice ca n cc, .slice na n nk, .int .i64 0, .slice none 0 0, .slice none 0 0] := R.putW (U := #[.int .i64 y.dn, .int .i64 y.dd, .int .i64 y.li, .int .i64 y.le, .int .i64 y.pt, .int .i64 y.ag, .int .i64 y.ke, .int .i64 y.lg, .int .i64 y.s, .int .i64 y.g, .slice p2 y.m d2, .slice a9 n c9, .int .i64 0, .slice ca n cc, .slice na n nk, .int .i64 0, .slice none 0 0, .slice none 0 0]) rfl
     have B2 := ai (k := w.heap.size + 1) [.int .i64 y.dn, .int .i64 y.dd, .int .i64 y.li, .int .i64 y.le, .int .i64 y.pt, .int .i64 y.ag, .int .i64 y.ke, .int .i64 y.lg, .int .i64 y.s, .int .i64 y.g, .slice p2 y.m d2, .slice a9 n c9, .int .i64 0, .slice ca n cc, .slice na n nk, .int .i64 0, .slice none 0 0, .slice none 0 0] w v8 0 B (by omega)
     have hR8 : w.heap.size + 1 < v8.heap.size := R.1
     go_wp2_with (first | rw [hL] | rw [hst])
     clear hst hL R B
     have hW2 : WdW (ah v8 (w.heap.size + 1) 0 [.int .i64 y.dn, .int .i64 y.dd, .int .i64 y.li, .int .i64 y.le, .int .i64 y.pt, .int .i64 y.ag, .int .i64 y.ke, .int .i64 y.lg, .int .i64 y.s, .int .i64 y.g, .slice p2 y.m d2, .slice a9 n c9, .int .i64 0, .slice ca n cc, .slice na n nk, .int .i64 0, .slice none 0 0, .slice none 0 0]) #[.int .i64 y.dn, .int .i64 y.dd, .int .i64 y.li, .int .i64 y.le, .int .i64 y.pt, .int .i64 y.ag, .int .i64 y.ke, .int .i64 y.lg, .int .i64 y.s, .int .i64 y.g, .slice p2 y.m d2, .slice a9 n c9, .int .i64 0, .slice ca n cc, .slice na n nk, .int .i64 0, .slice none 0 0, .slice none 0 0] (nwX y n LB) := fm hm hn (PS.far (af _ v8 0 (w.heap.size + 1)) (by omega)).1.srcC (PL.far (af _ v8 0 (w.heap.size + 1)) (by omega)).1.srcC (PI.far (af _ v8 0 (w.heap.size + 1)) (by omega)).1.srcC (PN.far (af _ v8 0 (w.heap.size + 1)) (by omega)).1.srcC
     generalize ah v8 (w.heap.size + 1) 0 [.int .i64 y.dn, .int .i64 y.dd, .int .i64 y.li, .int .i64 y.le, .int .i64 y.pt, .int .i64 y.ag, .int .i64 y.ke, .int .i64 y.lg, .int .i64 y.s, .int .i64 y.g, .slice p2 y.m d2, .slice a9 n c9, .int .i64 0, .slice ca n cc, .slice na n nk, .int .i64 0, .slice none 0 0, .slice none 0 0] = vz at *
     clear PL PS PI PN O
     have hL0 := R2.load (P := Tryz.prog) (show (#[.int .i64 y.dn, .int .i64 y.dd, .int .i64 y.li, .int .i64 y.le, .int .i64 y.pt, .int .i64 y.ag, .int .i64 y.ke, .int .i64 y.lg, .int .i64 y.s, .int .i64 y.g, .slice p2 y.m d2, .slice a9 n c9, .int .i64 0, .slice ca n cc, .slice na n nk, .int .i64 0, .slice none 0 0, .slice none 0 0] : Array Value).size = 18 from rfl)
     exact bodyPost_ret (v := .tuple #[.agg #[.int .i64 y.dn, .int .i64 y.dd, .int .i64 y.li, .int .i64 y.le, .int .i64 y.pt, .int .i64 y.ag, .int .i64 y.ke, .int .i64 y.lg, .int .i64 y.s, .int .i64 y.g, .slice p2 y.m d2, .slice a9 n c9, .int .i64 0, .slice ca n cc, .slice na n nk, .int .i64 0, .slice none 0 0, .slice none 0 0], .bool true]) (by simp [results, Tryz.results14, go_sem]; rw [hL0]; rfl) rfl ⟨_, by rw [hbB], by rw [hO]; exact hW2, B2⟩
 ·have hgt : (8 : Int) < (n : Int) := by omega
  have hbB : nwB y n LB = false := by rw [nwB, decide_eq_false h8]; rfl
  have hO : nwO y n LB = zwX := by rw [nwO, hbB]
  clear CP CN hp hl
  have A0 := Below.nw w (.cells (cfV y p d) 45)
  have A1 := Below.nw (w.alloc (.cells (cfV y p d) 45)) (.cells #[.int .i64 0, .int .i64 0, .int .i64 0, .int .i64 0, .int .i64 0, .int .i64 0, .int .i64 0, .int .i64 0, .int .i64 0, .int .i64 0, .slice none 0 0, .slice none 0 0, .int .i64 0, .slice none 0 0, .slice none 0 0, .int .i64 0, .slice none 0 0, .slice none 0 0] 52)
  have C := (Bo.new w (cfV y p d) 45).below A1
  have R := Bo.new (w.alloc (.cells (cfV y p d) 45)) #[.int .i64 0, .int .i64 0, .int .i64 0, .int .i64 0, .int .i64 0, .int .i64 0, .int .i64 0, .int .i64 0, .int .i64 0, .int .i64 0, .slice none 0 0, .slice none 0 0, .int .i64 0, .slice none 0 0, .slice none 0 0, .int .i64 0, .slice none 0 0, .slice none 0 0] 52
  have B := A0
  replace B := B.trans (A1.mono B.size)
  simp only [World.size_alloc] at R
  clear A0 A1
  go_enter Tryz.func14, Tryz.ntmps14
  go_upto_region 1 with fail
  generalize ((w.alloc (.cells (cfV y p d) 45))).alloc (.cells #[.int .i64 0, .int .i64 0, .int .i64 0, .int .i64 0, .int .i64 0, .int .i64 0, .int .i64 0, .int .i64 0, .int .i64 0, .int .i64 0, .slice none 0 0, .slice none 0 0, .int .i64 0, .slice none 0 0, .slice none 0 0, .int .i64 0, .slice none 0 0, .slice none 0 0] 52) = v0 at *
  have hst := Bo.store (P := Tryz.prog) (b := 0) [.int .i64 0, .int .i64 0, .int .i64 0, .int .i64 0, .int .i64 0, .int .i64 0, .int .i64 0, .int .i64 0, .int .i64 0, .int .i64 0, .slice none 0 0, .slice none 0 0, .int .i64 0, .slice none 0 0, .slice none 0 0, .int .i64 0, .slice none 0 0, .slice none 0 0] 0 0 R rfl (show 0 + 18 ≤ 18 by decide) (List.forall_mem_cons.2 ⟨rfl, (List.forall_mem_cons.2 ⟨rfl, (List.forall_mem_cons.2 ⟨rfl, (List.forall_mem_cons.2 ⟨rfl, (List.forall_mem_cons.2 ⟨rfl, (List.forall_mem_cons.2 ⟨rfl, (List.forall_mem_cons.2 ⟨rfl, (List.forall_mem_cons.2 ⟨rfl, (List.forall_mem_cons.2 ⟨rfl, (List.forall_mem_cons.2 ⟨rfl, (List.forall_mem_cons.2 ⟨rfl, (List.forall_mem_cons.2 ⟨rfl, (List.forall_mem_cons.2 ⟨rfl, (List.forall_mem_cons.2 ⟨rfl, (List.forall_mem_cons.2 ⟨rfl, (List.forall_mem_cons.2 ⟨rfl, (List.forall_mem_cons.2 ⟨rfl, (List.forall_mem_cons.2 ⟨rfl, fun _ h => nomatch h⟩)⟩)⟩)⟩)⟩)⟩)⟩)⟩)⟩)⟩)⟩)⟩)⟩)⟩)⟩)⟩)⟩)⟩)
  have R2 : Bo (ah v0 (w.heap.size + 1) 0 [.int .i64 0, .int .i64 0, .int .i64 0, .int .i64 0, .int .i64 0, .int .i64 0, .int .i64 0, .int .i64 0, .int .i64 0, .int .i64 0, .slice none 0 0, .slice none 0 0, .int .i64 0, .slice none 0 0, .slice none 0 0, .int .i64 0, .slice none 0 0, .slice none 0 0]) (w.heap.size + 1) #[.int .i64 0, .int .i64 0, .int .i64 0, .int .i64 0, .int .i64 0, .int .i64 0, .int .i64 0, .int .i64 0, .int .i64 0, .int .i64 0, .slice none 0 0, .slice none 0 0, .int .i64 0, .slice none 0 0, .slice none 0 0, .int .i64 0, .slice none 0 0, .slice none 0 0] := R.putW (U := #[.int .i64 0, .int .i64 0, .int .i64 0, .int .i64 0, .int .i64 0, .int .i64 0, .int .i64 0, .int .i64 0, .int .i64 0, .int .i64 0, .slice none 0 0, .slice none 0 0, .int .i64 0, .slice none 0 0, .slice none 0 0, .int .i64 0, .slice none 0 0, .slice none 0 0]) rfl
  have B2 := ai (k := w.heap.size + 1) [.int .i64 0, .int .i64 0, .int .i64 0, .int .i64 0, .int .i64 0, .int .i64 0, .int .i64 0, .int .i64 0, .int .i64 0, .int .i64 0, .slice none 0 0, .slice none 0 0, .int .i64 0, .slice none 0 0, .slice none 0 0, .int .i64 0, .slice none 0 0, .slice none 0 0] w v0 0 B (by omega)
  go_wp2_with (rw [hst])
  clear hst R B
  generalize ah v0 (w.heap.size + 1) 0 [.int .i64 0, .int .i64 0, .int .i64 0, .int .i64 0, .int .i64 0, .int .i64 0, .int .i64 0, .int .i64 0, .int .i64 0, .int .i64 0, .slice none 0 0, .slice none 0 0, .int .i64 0, .slice none 0 0, .slice none 0 0, .int .i64 0, .slice none 0 0, .slice none 0 0] = vz at *
  have hL0 := R2.load (P := Tryz.prog) (show (#[.int .i64 0, .int .i64 0, .int .i64 0, .int .i64 0, .int .i64 0, .int .i64 0, .int .i64 0, .int .i64 0, .int .i64 0, .int .i64 0, .slice none 0 0, .slice none 0 0, .int .i64 0, .slice none 0 0, .slice none 0 0, .int .i64 0, .slice none 0 0, .slice none 0 0] : Array Value).size = 18 from rfl)
  exact bodyPost_ret (v := .tuple #[.agg #[.int .i64 0, .int .i64 0, .int .i64 0, .int .i64 0, .int .i64 0, .int .i64 0, .int .i64 0, .int .i64 0, .int .i64 0, .int .i64 0, .slice none 0 0, .slice none 0 0, .int .i64 0, .slice none 0 0, .slice none 0 0, .int .i64 0, .slice none 0 0, .slice none 0 0], .bool false]) (by simp [results, Tryz.results14, go_sem]; rw [hL0]; rfl) rfl ⟨_, by rw [hbB], by rw [hO]; exact jX _, B2⟩
end Go.Proofs.YtddijpjgkifngaaGreat
