/- What the draw of bytes of chapter 4 leaves. -/
import Derived.Laws.OwnMore
import Derived.Deep.CutBlock
import Derived.Test.YtddjiamollfplaaGreatDoorMC0
import Derived.Test.YtddjiamollfplaaGreatDoorMC35
import Derived.Test.YtddjiamollfplaaGreatDoorMC36
namespace Go.Proofs.YtddjiamollfplaaGreatDoor
open Go.RowKit
set_option linter.unusedVariables false
theorem li {w : World} {base g c i : Nat} {T : TypeId} {L : List Int} (h : w.ownsRow base T 1 (.slice (some ⟨g, 0, none⟩) L.length c) L.length (bts L)) (z : Int) : (w.setCell ⟨g, i, none⟩ (.int .u8 z)).ownsRow base T 1 (.slice (some ⟨g, 0, none⟩) (L.set i z).length c) (L.set i z).length (bts (L.set i z)) := by
 have q := (h.stored i (.int .u8 z)).1
 rw [List.length_set]
 have e : bts (L.set i z) = (bts L).set i (.int .u8 z) := by unfold bts; rw [List.map_set]
 rw [e]
 exact q
theorem kd {w : World} {base g c m : Nat} {T : TypeId} {L : List Int} (h : w.ownsRow base T 1 (.slice (some ⟨g, 0, none⟩) L.length c) L.length (bts L)) (hm : m ≤ L.length) : w.ownsRow base T 1 (.slice (some ⟨g, 0, none⟩) (L.take m).length c) (L.take m).length (bts (L.take m)) := by
 have hl : (L.take m).length = m := by rw [List.length_take]; omega
 rw [hl]
 rcases h.2 with ⟨h', _⟩ | ⟨g', cap', cur, h', hb, hg, hnc, hcm, hcs, htake⟩
 ·simp at h'
 ·simp only [Value.slice.injEq, Option.some.injEq, Addr.mk.injEq, and_true, true_and] at h'
  obtain ⟨rfl, rfl⟩ := h'
  refine ⟨by rw [aY, hl, Nat.mul_one], .inr ⟨g, c, cur, rfl, hb, hg, by omega, hcm, hcs, ?_⟩⟩
  have e : bts (L.take m) = (bts L).take m := by unfold bts; rw [List.map_take]
  rw [e, ← htake, List.take_take, Nat.mul_one, Nat.mul_one, Nat.min_eq_left hm]
theorem mx {L : List Int} {i : Nat} {z : Int} (h : ∀ y ∈ L, 0 ≤ y ∧ y ≤ 255) (h0 : 0 ≤ z) (h1 : z ≤ 255) : ∀ y ∈ L.set i z, 0 ≤ y ∧ y ≤ 255 := fun y hy => by
 rcases List.mem_or_eq_of_mem_set hy with q | rfl
 ·exact h y q
 ·exact ⟨h0, h1⟩
theorem lx {L : List Int} {m : Nat} (h : ∀ y ∈ L, 0 ≤ y ∧ y ≤ 255) : ∀ y ∈ L.take m, 0 ≤ y ∧ y ≤ 255 := fun y hy => h y (List.mem_of_mem_take hy)
theorem mw {L : List Int} {z : Int} (h : ∀ y ∈ L, 0 ≤ y ∧ y ≤ 255) (h0 : 0 ≤ z) (h1 : z ≤ 255) : ∀ y ∈ L ++ [z], 0 ≤ y ∧ y ≤ 255 := bv h (fun y hy => by simp at hy; omega)
def Bw (w0 : World) (B p : Nat) (lo hi : Nat) (w : World) (g c n : Nat) (L : List Int) : Prop := L.length = n ∧ w.ownsRow w0.heap.size 5 1 (.slice (some ⟨g, 0, none⟩) n c) n (bts L) ∧ (∀ z ∈ L, 0 ≤ z ∧ z ≤ 255) ∧ lo ≤ n ∧ n ≤ hi ∧ aq w B p ∧ But p w0 w ∧ p < w0.heap.size
theorem Bw.but {w0 w w' : World} {B p lo hi g c n : Nat} {L : List Int} (h : Bw w0 B p lo hi w g c n L) (hc : aq w' B p) (hb : But p w w') : Bw w0 B p lo hi w' g c n L := by
 obtain ⟨a0, a1, a2, a3, a4, a5, a6, a7⟩ := h
 exact ⟨a0, ea a1 hb a7, a2, a3, a4, hc, a6.trans hb, a7⟩
theorem Bw.cur {w0 w : World} {B p lo hi g c n : Nat} {L : List Int} (h : Bw w0 B p lo hi w g c n L) : aq w B p := h.2.2.2.2.2.1
theorem Bw.facts {w0 w : World} {B p lo hi g c n : Nat} {L : List Int} (h : Bw w0 B p lo hi w g c n L) : w0.heap.size ≤ g ∧ g < w.heap.size ∧ n ≤ c ∧ c ≤ maxLen ∧ lo ≤ n ∧ n ≤ hi ∧ p < g ∧ w0.heap.size ≤ w.heap.size := by
 obtain ⟨rfl, a1, a2, a3, a4, a5, a6, a7⟩ := h
 have q := a1.lt g rfl
 obtain ⟨a, c', e, hc, hcm, hs⟩ := cq a1
 simp at e
 obtain ⟨rfl, rfl⟩ := e
 exact ⟨q.1, q.2, hc, hcm, a3, a4, by omega, a6.2.2.2.1⟩
theorem Bw.src {w0 w : World} {B p lo hi g c n : Nat} {L : List Int} (h : Bw w0 B p lo hi w g c n L) (m : Nat) (hm : m ≤ n) : de w (some ⟨g, 0, none⟩) m (fun i => L.getD i 0) ∧ ∀ i, i < m → 0 ≤ L.getD i 0 ∧ L.getD i 0 ≤ 255 := by
 obtain ⟨rfl, a1, a2, a3, a4, a5, a6, a7⟩ := h
 obtain ⟨a, c', e, hc, hcm, hs⟩ := cq a1
 simp at e
 obtain ⟨rfl, rfl⟩ := e
 refine ⟨?_, fun i hi => eF a2 i (by omega)⟩
 rcases hs with q | ⟨b, off, q1, q2⟩
 ·exact .inl (by omega)
 ·exact .inr ⟨b, off, q1, q2.1, fun i hi => q2.2 i (by omega)⟩
theorem Bw.cell {w0 w : World} {B p lo hi g c n : Nat} {L : List Int} (h : Bw w0 B p lo hi w g c n L) (i : Nat) (hi' : i < n) : w.cell? ⟨g, i, none⟩ = some (.int .u8 (L.getD i 0)) ∧ w.frozen? ⟨g, i, none⟩ = false := by
 obtain ⟨rfl, a1, a2, a3, a4, a5, a6, a7⟩ := h
 refine ⟨?_, a1.frozenAt i⟩
 rw [a1.cellAt i (by omega)]
 simp [bts, hi']
theorem Bw.set {w0 w : World} {B p lo hi g c n : Nat} {L : List Int} (h : Bw w0 B p lo hi w g c n L) (i : Nat) (z : Int) (hz : 0 ≤ z ∧ z ≤ 255) : Bw w0 B p lo hi (w.setCell ⟨g, i, none⟩ (.int .u8 z)) g c n (L.set i z) := by
 have f := h.facts
 obtain ⟨rfl, a1, a2, a3, a4, a5, a6, a7⟩ := h
 have l := a5.lt
 have q := li (i := i) a1 z
 rw [List.length_set] at q
 exact ⟨List.length_set, q, mx a2 hz.1 hz.2, a3, a4, a5.setOther (by omega) (by omega) _ _, a6.setNew f.1 _ _, a7⟩
theorem Bw.take {w0 w : World} {B p lo hi g c n : Nat} {L : List Int} (h : Bw w0 B p lo hi w g c n L) (m lo' : Nat) (hm : m ≤ n) (hl : lo' ≤ m) : Bw w0 B p lo' hi w g c m (L.take m) := by
 obtain ⟨rfl, a1, a2, a3, a4, a5, a6, a7⟩ := h
 have e : (L.take m).length = m := by rw [List.length_take]; omega
 have q := kd a1 hm
 rw [e] at q
 exact ⟨e, q, lx a2, hl, by omega, a5, a6, a7⟩
theorem Bw.more {w0 w : World} {B p lo hi hi' g c n : Nat} {L : List Int} (h : Bw w0 B p lo hi w g c n L) (hh : hi ≤ hi') : Bw w0 B p lo hi' w g c n L := by
 obtain ⟨a0, a1, a2, a3, a4, a5, a6, a7⟩ := h
 exact ⟨a0, a1, a2, a3, by omega, a5, a6, a7⟩
theorem Bw.less {w0 w : World} {B p lo lo' hi g c n : Nat} {L : List Int} (h : Bw w0 B p lo hi w g c n L) (hh : lo' ≤ lo) : Bw w0 B p lo' hi w g c n L := by
 obtain ⟨a0, a1, a2, a3, a4, a5, a6, a7⟩ := h
 exact ⟨a0, a1, a2, by omega, a4, a5, a6, a7⟩
theorem Bw.drew {w0 w : World} {B p lo hi g c n : Nat} {L : List Int} (h : Bw w0 B p lo hi w g c n L) : Bw w0 B p lo hi w.drew g c n L := h
theorem Bw.alloc {w0 w : World} {B p lo hi g c n : Nat} {L : List Int} (h : Bw w0 B p lo hi w g c n L) (o : Obj) : Bw w0 B p lo hi (w.alloc o) g c n L := by
 obtain ⟨a0, a1, a2, a3, a4, a5, a6, a7⟩ := h
 exact ⟨a0, World.ownsRow.alloc a1 _, a2, a3, a4, a5.below (Below.al _ _), a6.alloc _, a7⟩
theorem Bw.grown {w0 w w' : World} {B p lo hi g c n : Nat} {L : List Int} {z : Int} {v' : Value} (h : Bw w0 B p lo hi w g c n L) (hz : 0 ≤ z ∧ z ≤ 255) (hg : w.grownBy w' (Value.ownBlock (.slice (some ⟨g, 0, none⟩) n c))) (hown : w'.ownsRow w0.heap.size 5 1 v' (n + 1) (bts L ++ [.int .u8 z])) : ∃ g' c', v' = .slice (some ⟨g', 0, none⟩) (n + 1) c' ∧ Bw w0 B p (lo + 1) (hi + 1) w' g' c' (n + 1) (L ++ [z]) := by
 have f := h.facts
 obtain ⟨rfl, a1, a2, a3, a4, a5, a6, a7⟩ := h
 have G := ap a1 hg f.2.2.2.2.2.2.2
 have R : w'.ownsRow w0.heap.size 5 1 v' (L ++ [z]).length (bts (L ++ [z])) := by rw [cu]; simpa using hown
 obtain ⟨g', c', e⟩ := aM R (by simp)
 have l : (L ++ [z]).length = L.length + 1 := by simp
 rw [l] at e R
 subst e
 exact ⟨g', c', rfl, l, R, mw a2 hz.1 hz.2, by omega, by omega, aq.belowB a5 G a7, But.thenBelow a6 G, a7⟩
set_option maxRecDepth 100000 in
set_option maxHeartbeats 8000000 in
theorem cL (B p : Nat) (w : World) (hcur : aq w B p) :
 Calls Tryz.prog 91 #[.pointer (some ⟨p, 0, none⟩)] w fun e w' => ∃ (a : Option Addr) (n c : Nat) (f : Nat → Int), e = .returned (.slice a n c) ∧ n ≤ c ∧ c ≤ maxLen ∧ n ≤ 200 ∧ de w' a n f ∧ (∀ i, i < n → 0 ≤ f i ∧ f i ≤ 255) ∧ aq w' B p ∧ But p w w' := by
 obtain ⟨i0, hi0, hz0, hz1, hz2⟩ := info_parts infoByte
 have hpl := hcur.lt
 go_enter Tryz.func91, Tryz.ntmps91
 go_wp2_with fail
 refine (dX B p _ hcur).mono ?_
 rintro e w1 ⟨k, fr, tu, no, lo, hi, sl, s, rfl, hs, c1, b1⟩
 go_wp2_with fail
 refine (gm k fr tu no lo hi sl s _ (by omega)).mono ?_
 rintro e w2 ⟨v, rfl, O, hb⟩
 have c2 := c1.below hb
 have b2 := b1.trans (But.of_below hb)
 replace O := cY O b1.2.2.2.1
 clear c1 b1 hb hcur
 go_upto_if 14 with fail
 go_cut [3, 4] (fun s3 s4 wx => ∃ (g c n : Nat) (L : List Int), s3 = .slice (some ⟨g, 0, none⟩) n c ∧ Bw w B p 2 100 wx g c n L)
 case first =>
  cases hm : aD k fr tu no lo hi sl s
  ·go_wp2_with fail
   go_meet
   case rel =>
    refine ⟨w2.heap.size, 4, 4, [1, 0, 0, 0], rfl, rfl, ?_, ?_, by simp, by simp, c2.below (Below.al _ _), b2.alloc _, hpl.1⟩
    ·exact World.ownsRow_lit w2 #[.int .u8 1, .int .u8 0, .int .u8 0, .int .u8 0] 4 b2.2.2.2.1 (by simp [maxLen]) rfl
    ·intro z hz; simp at hz; omega
  ·go_wp2_with fail
   go_meet
   case rel =>
    have hk := b8 hm
    have hl := g9 k fr tu no lo hi sl s
    rw [ll hm] at O hl
    obtain ⟨g, cp, rfl⟩ := aM O (by intro e; have := fF k fr tu no lo hi sl s; rw [e] at this; simp at this)
    exact ⟨g, cp, _, _, rfl, rfl, O, ke k fr tu no lo hi sl s (by omega), fF _ _ _ _ _ _ _ _, hl, c2, b2, hpl.1⟩
 case rest =>
  obtain ⟨g, cp, n, L, rfl, W⟩ := hcut
  clear O c2 b2 hs
  go_wp2_with fail
  refine (af B p 6 _ W.cur).mono ?_
  rintro e w3 ⟨x, rfl, xl, xh, xp, xz, c, b⟩
  replace W := W.but c b
  clear xp xz b c
  obtain ⟨-, -, hnc, hcm, l2, l1, -, -⟩ := W.facts
  unfold maxLen at hcm
  have hwn : IntKind.i64.wrap ((n : Int) - 1) = (n : Int) - 1 := Go.IntWalk.i64_in _ ⟨by omega, by omega⟩
  have hsb : 0 ≤ (n : Int) - 1 ∧ (n : Int) - 1 ≤ (cp : Int) := ⟨by omega, by omega⟩
  have hn1 : (1 : Int) ≤ (n : Int) := by omega
  have hib : 0 ≤ (n : Int) - 1 ∧ (n : Int) - 1 < (n : Int) := ⟨by omega, by omega⟩
  have htn : ((n : Int) - 1).toNat = n - 1 := by omega
  have hncI : (n : Int) - 1 ≤ (cp : Int) := by omega
  go_upto_block 0 with fail
  go_cut [3, 5, 6, 18, 30, 57] (fun s3 s5 s6 s18 s30 s57 wx => ∃ (g c n : Nat) (L : List Int), s3 = .slice (some ⟨g, 0, none⟩) n c ∧ Bw w B p 2 102 wx g c n L)
  case first =>
   by_cases h0 : x = 0
   ·subst h0
    go_wp2_with fail
    refine (af B p n _ W.cur).mono ?_
    rintro e w4 ⟨y, rfl, yl, yh, yp, yz, c, b⟩
    have hy := yp (by omega)
    obtain ⟨j, rfl⟩ := Int.eq_ofNat_of_zero_le yl
    have hj : j < n := by omega
    replace W := W.but c b
    clear yp yz b c
    go_wp2_with fail
    refine (bS B p _ W.cur).mono ?_
    rintro e w5 ⟨z, rfl, z0, z1, c, b⟩
    have hzw : IntKind.u8.wrap z = z := Go.IntWalk.u8_in _ ⟨by omega, by omega⟩
    replace W := W.but c b
    have hq := W.cell j hj
    obtain ⟨q1, q2⟩ := hq
    have q3 := W.facts.2.1
    clear b c
    go_wp2_with fail
    go_meet
    case rel => exact ⟨_, _, _, _, rfl, (W.set j z ⟨z0, z1⟩).more (by omega)⟩
   ·have e0 : (x == 0) = false := by simp; omega
    by_cases h12 : x = 1 ∨ x = 2
    ·by_cases h1 : x = 1
     ·subst h1
      go_wp2_with fail
      refine (af B p _ _ W.cur).mono ?_
      rintro e w4 ⟨y, rfl, yl, yh, yp, yz, c, b⟩
      have hy := yp (by omega)
      obtain ⟨j, rfl⟩ := Int.eq_ofNat_of_zero_le yl
      have hj : j < n := by omega
      replace W := W.but c b
      clear yp yz b c
      go_wp2_with fail
      have hp := ga B p w4 [0, 1, 2, 3, 127, 128, 129, 255, 25] W.cur (by simp) (by simp)
      simp only [List.map_cons, List.map_nil, List.length_cons, List.length_nil, Nat.zero_add, Nat.reduceAdd] at hp
      refine hp.mono ?_
      clear hp
      rintro e w5 ⟨z, rfl, zm, c, b⟩
      have hz : 0 ≤ z ∧ z ≤ 255 := by simp at zm; omega
      have hzw : IntKind.u8.wrap z = z := Go.IntWalk.u8_in _ ⟨by omega, by omega⟩
      replace W := W.but c b
      have hq := W.cell j hj
      obtain ⟨q1, q2⟩ := hq
      have q3 := W.facts.2.1
      clear b c zm
      go_wp2_with fail
      clear q1 q2 q3
      replace W := W.set j z hz
      generalize w5.setCell ⟨g, j, none⟩ (.int .u8 z) = w6 at *
      refine (aX (some ⟨g, 0, none⟩) (n - 1) cp _ _ (by unfold maxLen; omega) (W.src (n - 1) (by omega)).1 (W.src (n - 1) (by omega)).2).mono ?_
      rintro e w' ⟨rfl, rfl⟩
      have hk := cz (W.src (n - 1) (by omega)).2
      generalize chk (fun i => (L.set j z).getD i 0) (n - 1) = q at *
      have hqw : IntKind.u8.wrap q = q := Go.IntWalk.u8_in _ ⟨by omega, by omega⟩
      have hq := W.cell (n - 1) (by omega)
      obtain ⟨q1, q2⟩ := hq
      have q3 := W.facts.2.1
      go_wp2_with fail
      go_meet
      case rel => exact ⟨_, _, _, _, rfl, (W.set (n - 1) q hk).more (by omega)⟩
     ·have h2 : x = 2 := by omega
      subst h2
      go_wp2_with fail
      refine (af B p _ _ W.cur).mono ?_
      rintro e w4 ⟨y, rfl, yl, yh, yp, yz, c, b⟩
      have hy := yp (by omega)
      obtain ⟨j, rfl⟩ := Int.eq_ofNat_of_zero_le yl
      have hj : j < n := by omega
      replace W := W.but c b
      clear yp yz b c
      go_wp2_with fail
      have hp := ga B p w4 [0, 1, 2, 3, 127, 128, 129, 255, 25] W.cur (by simp) (by simp)
      simp only [List.map_cons, List.map_nil, List.length_cons, List.length_nil, Nat.zero_add, Nat.reduceAdd] at hp
      refine hp.mono ?_
      clear hp
      rintro e w5 ⟨z, rfl, zm, c, b⟩
      have hz : 0 ≤ z ∧ z ≤ 255 := by simp at zm; omega
      have hzw : IntKind.u8.wrap z = z := Go.IntWalk.u8_in _ ⟨by omega, by omega⟩
      replace W := W.but c b
      have hq := W.cell j hj
      obtain ⟨q1, q2⟩ := hq
      have q3 := W.facts.2.1
      clear b c zm
      go_wp2_with fail
      clear q1 q2 q3
      replace W := W.set j z hz
      generalize w5.setCell ⟨g, j, none⟩ (.int .u8 z) = w6 at *
      refine (aX (some ⟨g, 0, none⟩) (n - 1) cp _ _ (by unfold maxLen; omega) (W.src (n - 1) (by omega)).1 (W.src (n - 1) (by omega)).2).mono ?_
      rintro e w' ⟨rfl, rfl⟩
      have hk := cz (W.src (n - 1) (by omega)).2
      generalize chk (fun i => (L.set j z).getD i 0) (n - 1) = q at *
      have hqw : IntKind.u8.wrap q = q := Go.IntWalk.u8_in _ ⟨by omega, by omega⟩
      have hq := W.cell (n - 1) (by omega)
      obtain ⟨q1, q2⟩ := hq
      have q3 := W.facts.2.1
      go_wp2_with fail
      go_meet
      case rel => exact ⟨_, _, _, _, rfl, (W.set (n - 1) q hk).more (by omega)⟩
    ·have e1 : (x == 1) = false := by simp; omega
     have e2 : (x == 2) = false := by simp; omega
     by_cases h3 : x = 3
     ·subst h3
      go_upto_region 14 with fail
      refine wp_region_held_drew (S := (fun _ => True)) (by kernel_rfl) ?_ (fun hHeld => ?_)
      ·trivial
      refine zT4 0 ?_
      refine zT2 4 ?_
      refine zQ 6 fun K hK => ?_
      go_simp
      refine hK.out _ _ ?_ (fun hHeld => ?_)
      ·trivial
      clear hK K
      (try simp only [zA])
      refine zQ 7 fun K hK => ?_
      go_simp
      (have hp := ga B p w3.drew [0, 1, 128] (aq.drew W.cur) (by simp) (by simp)); simp only [List.map_cons, List.map_nil, List.length_cons, List.length_nil, Nat.zero_add, Nat.reduceAdd] at hp; refine hp.mono ?_; clear hp; rintro e w4 ⟨z, rfl, zm, c, b⟩; (have hz : 0 ≤ z ∧ z ≤ 255 := by simp at zm; omega); (have hzw : IntKind.u8.wrap z = z := Go.IntWalk.u8_in _ ⟨by omega, by omega⟩); (replace W := (W.drew.but c b).take (n - 1) 1 (by omega) (by omega)); clear b c zm
      (try go_wp2_with fail)
      refine hK.out _ _ ?_ (fun hHeld => ?_)
      ·trivial
      clear hK K
      (try simp only [zA])
      refine zTk 8 ?_
      refine zQ 9 fun K hK => ?_
      go_simp
      refine hK.out _ _ ?_ (fun hHeld => ?_)
      ·trivial
      clear hK K
      (try simp only [zA])
      refine zQ 10 fun K hK => ?_
      rw [if_pos (by rfl)]; refine wp_append_own _ _ _ 22 rfl w.heap.size 5 i0 (.int .u8 0) 1 1 Tryz.underlying22 hi0 hz0 hz1 hz2 rfl (by decide) _ _ _ rfl (W.alloc _).2.1 ⟨w4.heap.size, 0, none⟩ 1 1 [.int .u8 z] rfl rfl (fun j u hj => bU w4 _ 5 j u hj) (by intro u hu; simp at hu; subst hu; rfl) (by unfold maxLen; omega) (by omega) (by have := W.facts; simp; omega) ?_; intro v' wn hown' hgrow _; (obtain ⟨g2, c2, rfl, W2⟩ := (W.alloc _).grown hz hgrow hown'); clear hown' hgrow
      refine hK.out _ _ ?_ (fun hHeld => ?_)
      ·trivial
      clear hK K
      (try simp only [zA])
      refine zTk 11 ?_
      refine wpAnyH_done (by kernel_rfl) ?_ _
      go_wp2_with fail
      generalize n - 1 + 1 = n1 at *
      refine (aX (some ⟨g2, 0, none⟩) n1 c2 _ _ (by have := W2.facts; unfold maxLen; omega) (W2.src n1 (Nat.le_refl _)).1 (W2.src n1 (Nat.le_refl _)).2).mono ?_
      rintro e w' ⟨rfl, rfl⟩
      have hk := cz (W2.src n1 (Nat.le_refl _)).2
      generalize chk (fun i => List.getD (L.take (n - 1) ++ [z]) i 0) n1 = q at *
      have hqw : IntKind.u8.wrap q = q := Go.IntWalk.u8_in _ ⟨by omega, by omega⟩
      have hle := W2.facts.2.2.2.2.2.1
      go_wp2_with (at_builtin; refine wpList_append_own _ rfl _ _ 22 rfl w.heap.size 5 i0 (.int .u8 0) 1 1 Tryz.underlying22 hi0 hz0 hz1 hz2 rfl (by decide) _ _ _ rfl (W2.alloc _).2.1 ⟨wn.heap.size, 0, none⟩ 1 1 [.int .u8 q] rfl rfl (fun j u hj => bU wn _ 5 j u hj) (by intro u hu; simp at hu; subst hu; rfl) (by unfold maxLen; omega) (by omega) (by have := W2.facts; simp; omega) ?_; intro v' wq hown' hgrow _)
      obtain ⟨g3, c3, rfl, W3⟩ := (W2.alloc _).grown hk hgrow hown'
      clear hown' hgrow
      (try go_wp2_with fail)
      go_meet
      case rel => exact ⟨_, _, _, _, rfl, (W3.more (by omega)).less (by omega)⟩
     ·have e3 : (x == 3) = false := by simp; omega
      go_wp2_with fail
      go_meet
      case rel => exact ⟨_, _, _, _, rfl, W.more (by omega)⟩
  case rest =>
   obtain ⟨g, cp, n, L, rfl, W'⟩ := hcut
   clear W hnc hcm l2 l1 hwn hsb hn1 hib htn hncI
   have W := W'
   clear W'
   go_wp2_with fail
   refine (aB B p 12 _ W.cur).mono ?_
   rintro e w4 ⟨oo, rfl, c, b⟩
   replace W := W.but c b
   clear b c
   obtain ⟨-, -, hnc, hcm, l2, l1, -, -⟩ := W.facts
   cases oo
   ·go_wp2_with fail
    go_ret
    exact ⟨_, _, _, _, rfl, hnc, hcm, by omega, (W.src n (Nat.le_refl _)).1, (W.src n (Nat.le_refl _)).2, W.cur, W.2.2.2.2.2.2.1⟩
   ·go_wp2_with fail
    refine (af B p n _ W.cur).mono ?_
    rintro e w5 ⟨y, rfl, yl, yh, yp, yz, c, b⟩
    have hy := yp (by omega)
    obtain ⟨j, rfl⟩ := Int.eq_ofNat_of_zero_le yl
    have hj : j < n := by omega
    replace W := (W.but c b).take j 0 (by omega) (by omega)
    generalize L.take j = L' at *
    clear yp yz b c
    have hsb : 0 ≤ (j : Int) ∧ (j : Int) ≤ (cp : Int) := ⟨by omega, by omega⟩
    by_cases hj0 : 0 < j
    ·have hj1 : 0 < (j : Int) := by omega
     go_wp2_with fail
     refine (aB B p 2 _ W.cur).mono ?_
     rintro e w6 ⟨o2, rfl, c, b⟩
     replace W := W.but c b
     clear b c
     cases o2
     ·go_wp2_with fail
      go_ret
      exact ⟨_, _, _, _, rfl, by omega, hcm, by omega, (W.src j (Nat.le_refl _)).1, (W.src j (Nat.le_refl _)).2, W.cur, W.2.2.2.2.2.2.1⟩
     ·go_wp2_with fail
      refine (aX (some ⟨g, 0, none⟩) j cp _ _ (by have := W.facts; unfold maxLen; omega) (W.src j (Nat.le_refl _)).1 (W.src j (Nat.le_refl _)).2).mono ?_
      rintro e w' ⟨rfl, rfl⟩
      have hk := cz (W.src j (Nat.le_refl _)).2
      generalize chk (fun i => List.getD L' i 0) j = q at *
      have hqw : IntKind.u8.wrap q = q := Go.IntWalk.u8_in _ ⟨by omega, by omega⟩
      have hle := W.facts.2.2.2.2.2.1
      go_wp2_with (at_builtin; refine wpList_append_own _ rfl _ _ 22 rfl w.heap.size 5 i0 (.int .u8 0) 1 1 Tryz.underlying22 hi0 hz0 hz1 hz2 rfl (by decide) _ _ _ rfl (W.alloc _).2.1 ⟨w6.heap.size, 0, none⟩ 1 1 [.int .u8 q] rfl rfl (fun j u hj => bU w6 _ 5 j u hj) (by intro u hu; simp at hu; subst hu; rfl) (by unfold maxLen; omega) (by omega) (by have := W.facts; simp; omega) ?_; intro v' wn hown' hgrow _)
      obtain ⟨g3, c3, rfl, W3⟩ := (W.alloc _).grown hk hgrow hown'
      clear hown' hgrow
      (try go_wp2_with fail)
      go_ret
      have f := W3.facts
      exact ⟨_, _, _, _, rfl, f.2.2.1, f.2.2.2.1, by omega, (W3.src (j + 1) (Nat.le_refl _)).1, (W3.src (j + 1) (Nat.le_refl _)).2, W3.cur, W3.2.2.2.2.2.2.1⟩
    ·have hj00 : j = 0 := by omega
     subst hj00
     go_wp2_with fail
     go_ret
     exact ⟨_, _, _, _, rfl, by omega, hcm, by omega, (W.src 0 (Nat.le_refl _)).1, (W.src 0 (Nat.le_refl _)).2, W.cur, W.2.2.2.2.2.2.1⟩
end Go.Proofs.YtddjiamollfplaaGreatDoor
