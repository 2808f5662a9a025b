/- Drawn ops. -/
import Derived.Test.YtddjiamollfplaaGreatDoorMC0
import Derived.Test.YtddjiamollfplaaGreatDoorMC32
import Derived.Test.YtddjiamollfplaaGreatDoorMC40
namespace Go.Proofs.YtddjiamollfplaaGreatDoor
open Go.RowKit
set_option linter.unusedVariables false

theorem bD.below {w w' : World} {base top : Nat} {v : Value} {n : Nat} {XM : Nat → OpD} (h : bD w base top v n XM) (hb : Below w.heap.size w w') : bD w' base top v n XM := by
 have ht : top ≤ w.heap.size := by obtain ⟨_, _, _, _, q, _⟩ := h; exact q
 exact h.kp hb.size (fun g _ ql => hb.block g (by omega))
theorem bD.but {w w' : World} {base top p : Nat} {v : Value} {n : Nat} {XM : Nat → OpD} (h : bD w base top v n XM) (hb : But p w w') (hp : p < base) : bD w' base top v n XM := by
 have ht : top ≤ w.heap.size := by obtain ⟨_, _, _, _, q, _⟩ := h; exact q
 exact h.kp hb.2.2.2.1 (fun g q1 ql => hb.2.2.2.2 g (by omega) (by omega))
theorem mG {G F : Nat → Nat → Nat → Int → Int → Int → Int → Int → ByteArray → Option Addr → List Int → Nat → World → Prop} {R : Prop} (h1 : (∀ nb lb ob k nd tt a b tx P L c vx, F nb lb ob k nd tt a b tx P L c vx → G nb lb ob k nd tt a b tx P L c vx) → R) (h2 : ∀ nb lb ob k nd tt a b tx P L c vx, F nb lb ob k nd tt a b tx P L c vx → G nb lb ob k nd tt a b tx P L c vx) : R := h1 h2
attribute [-go_sem] loadCells storeCells in
set_option maxRecDepth 100000 in
set_option maxHeartbeats 16000000 in
theorem eu (B p : Nat) (m : Nat) (hm : m ≤ 100) (w : World) (hcur : aq w B p) :
 Calls Tryz.prog 41 #[.pointer (some ⟨p, 0, none⟩), .int .i64 (m : Int)] w fun e w' => ∃ (v : Value) (n : Nat) (XM : Nat → OpD), e = .returned v ∧ n ≤ 201 ∧ bD w' w.heap.size w'.heap.size v n XM ∧ aq w' B p ∧ aW w.heap.size p w w' := by
 have hpB := hcur.lt
 have hp : p < w.heap.size := hpB.1
 have hB : B ≤ p := hpB.2
 clear hpB
 have hm1 : IntKind.i64.wrap ((m : Int) + 1) = (m : Int) + 1 := Go.IntWalk.i64_in _ ⟨by omega, by omega⟩
 go_enter Tryz.func41, Tryz.ntmps41
 go_wp2_with fail
 refine (af B p _ w hcur).mono ?_
 rintro e v1 ⟨x, rfl, x0, x1, xp, xz, C, bb⟩
 have hx2 := xp (by omega)
 have N := bb.belP (Nat.le_refl w.heap.size)
 clear xp xz x1 bb hcur hm1
 go_wp2_with fail
 refine (aB B p 30 v1 C).mono ?_
 rintro e v2 ⟨bo, rfl, cc, bb⟩
 replace N := N.trans (bb.belP N.2.2.2.1)
 clear C bb
 have C := cc
 clear cc v1
 cases bo
 ·obtain ⟨n, rfl⟩ := Int.eq_ofNat_of_zero_le x0
  have hn : n ≤ 201 := by omega
  clear hx2 x0
  have hsz : w.heap.size ≤ v2.heap.size := N.2.2.2.1
  have A6 := Below.nw v2 (.cells #[] 26)
  have O := (bD.made v2 (gX [])).low hsz
  rw [show v2.heap.size + 1 = (v2.alloc (.cells #[] 26)).heap.size by simp] at O
  replace C := C.below A6
  replace N := N.trans (au A6 hsz)
  clear A6
  go_upto_region 5 with fail
  generalize v2.alloc (.cells #[] 26) = va at *
  go_wp2_with fail
  go_loopw [6, 7] (fun out i wr => ∃ (r : Nat) (XM : Nat → OpD), r ≤ n ∧ i = .int .i64 (r : Int) ∧ bD wr w.heap.size wr.heap.size out r XM ∧ aq wr B p ∧ aW w.heap.size p w wr) (fun _ i _ => n - (intOf i).toNat)
  case atStart => exact ⟨0, _, Nat.zero_le _, rfl, O, C, N⟩
  case round =>
   clear O C N hsz
   obtain ⟨r, XM, hr, rfl, O, C, N⟩ := hrel
   have hbt : w.heap.size ≤ wr.heap.size := N.2.2.2.1
   by_cases hlt : r < n
   ·have hli : (r : Int) < (n : Int) := by omega
    have hT : wr.heap.size ≤ wr.heap.size := Nat.le_refl _
    obtain ⟨t0, ht0⟩ : ∃ t0, t0 = wr.heap.size := ⟨_, rfl⟩
    rw [← ht0] at O hbt
    have hT : t0 ≤ wr.heap.size := by omega
    clear ht0
    go_upto_region 8 with fail
    refine wp_region_held_drew (S := (fun _ => True)) (by kernel_rfl) ?_ (fun hHeld => ?_)
    ·trivial
    have hT : t0 ≤ wr.drew.heap.size := hT
    replace C := C.drew
    replace N : aW w.heap.size p w wr.drew := N
    replace O : bD wr.drew w.heap.size t0 u6 r XM := O
    generalize wr.drew = vx at *
    revert O; revert N; revert C; revert hT; revert hHeld; revert vx
    apply mG (F := fun nb lb ob k nd tt a b tx P L c vx => bD vx w.heap.size t0 u6 r XM ∧ aq vx B p ∧ aW w.heap.size p w vx ∧ vx.ownsRow t0 3 1 (.slice P L.length c) L.length (aG L) ∧ (∀ q, (Value.slice P L.length c).ownBlock = some q → q ≠ ob) ∧ Bo vx ob #[.int .i64 0, .int .i64 0, .int .i64 0, .int .i64 0, .int .i64 0, .string ⟨#[]⟩, .slice none 0 0] ∧ t0 ≤ ob ∧ tx.size ≤ 100 ∧ L.length ≤ 5)
    ·intro T vx hHeld hT C N O
     refine zTk 0 ?_
     refine wpAnyH_ready (rs := [1, 2, 5]) (by kernel_rfl) (by simp) ?_
     refine (zC (fun K hK => ?_) (zC (fun K hK => ?_) (zR fun K hK => ?_)))
     ·go_simp
      (try rw [cm vx]); (try go_simp); (have A6 := Below.nw vx (.cells (madeCells #[.int .i64 0, .int .i64 0, .int .i64 0, .int .i64 0, .bool false, .int .i64 0, .int .i64 0, .int .i64 0, .int .i64 0, .int .i64 0, .slice none 0 0, .slice none 0 0, .bool false, .int .i64 0, .slice none 0 0, .int .i64 0] 64) 145)); (have F1 : NdF (vx.alloc (.cells (madeCells #[.int .i64 0, .int .i64 0, .int .i64 0, .int .i64 0, .bool false, .int .i64 0, .int .i64 0, .int .i64 0, .int .i64 0, .int .i64 0, .slice none 0 0, .slice none 0 0, .bool false, .int .i64 0, .slice none 0 0, .int .i64 0] 64) 145)) vx.heap.size := NdF.new vx); (replace C := C.below A6); (replace N := N.trans (au A6 (by omega))); (replace O := O.below A6); (try replace F1 := F1.below A6); (try replace F2 := F2.below A6); (try replace QO := QO.below A6); (have hT2 : t0 < (vx.alloc (.cells (madeCells #[.int .i64 0, .int .i64 0, .int .i64 0, .int .i64 0, .bool false, .int .i64 0, .int .i64 0, .int .i64 0, .int .i64 0, .int .i64 0, .slice none 0 0, .slice none 0 0, .bool false, .int .i64 0, .slice none 0 0, .int .i64 0] 64) 145)).heap.size := by simp; omega); (have hnb : t0 ≤ vx.heap.size := hT); (clear A6 hT); (have hT := Nat.le_of_lt hT2); (clear hT2); (generalize vx.alloc (.cells (madeCells #[.int .i64 0, .int .i64 0, .int .i64 0, .int .i64 0, .bool false, .int .i64 0, .int .i64 0, .int .i64 0, .int .i64 0, .int .i64 0, .slice none 0 0, .slice none 0 0, .bool false, .int .i64 0, .slice none 0 0, .int .i64 0] 64) 145) = vx' at *); (generalize vx.heap.size = nb at *); (clear vx); (generalize vx' = vx at *)
      refine hK.out _ _ ?_ (fun hHeld => ?_)
      ·trivial
      clear hK K
      (try simp only [zA])
      refine wpAnyH_ready (rs := [2, 5]) (by kernel_rfl) (by simp) ?_
      refine (zC (fun K hK => ?_) (zR fun K hK => ?_))
      ·go_simp
       (try rw [cl vx]); (try go_simp); (have A6 := Below.nw vx (.cells (madeCells #[.bool false] 4) 4)); (have F2 : LiF (vx.alloc (.cells (madeCells #[.bool false] 4) 4)) vx.heap.size := LiF.new vx); (replace C := C.below A6); (replace N := N.trans (au A6 (by omega))); (replace O := O.below A6); (try replace F1 := F1.below A6); (try replace F2 := F2.below A6); (try replace QO := QO.below A6); (have hT2 : t0 < (vx.alloc (.cells (madeCells #[.bool false] 4) 4)).heap.size := by simp; omega); (have hlb : t0 ≤ vx.heap.size := hT); (clear A6 hT); (have hT := Nat.le_of_lt hT2); (clear hT2); (generalize vx.alloc (.cells (madeCells #[.bool false] 4) 4) = vx' at *); (generalize vx.heap.size = lb at *); (clear vx); (generalize vx' = vx at *)
       refine hK.out _ _ ?_ (fun hHeld => ?_)
       ·trivial
       clear hK K
       (try simp only [zA])
       refine zTk 3 ?_
       refine wpAnyH_ready (rs := [4, 5]) (by kernel_rfl) (by simp) ?_
       refine (zC (fun K hK => ?_) (zR fun K hK => ?_))
       ·go_simp
        refine (am B p lb nb vx C ⟨⟨F2.1, by omega, F2.2⟩, F1.1, by omega, F1.2⟩).mono ?_; rintro e vy hop; obtain ⟨k, nd, tt, a, b, tx, P, L, c, rfl, hx, hm, ho, hc, hb, hk, hq⟩ := hop; (have hbb : But p vx vy := hb); (replace O := O.but hbb hp); (try replace QO := QO.but hbb (by omega)); (replace N := N.trans (hbb.belP (by omega))); (have C2 := hc); (clear C); (have C := C2); (clear C2); (have OW := ah ho (show t0 ≤ vx.heap.size by omega)); (have hT2 : t0 ≤ vy.heap.size := Nat.le_trans hT hbb.2.2.2.1); (clear hT ho hc hb hk hq hbb F1 F2); (have hT := hT2); (clear hT2); (try clear QOlt); (clear vx); (generalize vy = vx at *)
        (try go_wp2_with fail)
        refine hK.out _ _ ?_ (fun hHeld => ?_)
        ·trivial
        clear hK K
        (try simp only [zA])
        refine zQ 5 fun K hK => ?_
        go_simp
        (have A6 := Below.nw vx (.cells #[.int .i64 0, .int .i64 0, .int .i64 0, .int .i64 0, .int .i64 0, .string ⟨#[]⟩, .slice none 0 0] 26)); (have QO := Bo.new vx #[.int .i64 0, .int .i64 0, .int .i64 0, .int .i64 0, .int .i64 0, .string ⟨#[]⟩, .slice none 0 0] 26); (have HNE : Hid (∀ q, (Value.slice P L.length c).ownBlock = some q → q ≠ vx.heap.size) := fun q hq => by have := (World.ownsRow.lt OW q hq).2; omega); (replace C := C.below A6); (replace N := N.trans (au A6 (by omega))); (replace O := O.below A6); (try replace F1 := F1.below A6); (try replace F2 := F2.below A6); (try replace QO := QO.below A6); (replace OW := ax OW A6); (have hT2 : t0 < (vx.alloc (.cells #[.int .i64 0, .int .i64 0, .int .i64 0, .int .i64 0, .int .i64 0, .string ⟨#[]⟩, .slice none 0 0] 26)).heap.size := by simp; omega); (have hob : t0 ≤ vx.heap.size := hT); (clear A6 hT); (have hT := Nat.le_of_lt hT2); (clear hT2); (generalize vx.alloc (.cells #[.int .i64 0, .int .i64 0, .int .i64 0, .int .i64 0, .int .i64 0, .string ⟨#[]⟩, .slice none 0 0] 26) = vx' at *); (generalize vx.heap.size = ob at *); (clear vx); (generalize vx' = vx at *)
        refine hK.out _ _ ?_ (fun hHeld => ?_)
        ·trivial
        clear hK K
        (try simp only [zA])
        refine zQ 6 fun K hK => ?_
        go_simp
        (have hst := Bo.store (P := Tryz.prog) (b := 0) [.int .i64 k, .int .i64 nd, .int .i64 tt, .int .i64 a, .int .i64 b, .string tx, .slice P L.length c] 0 0 QO rfl (by simp) (by intro u hu; simp only [List.mem_cons, List.not_mem_nil, or_false] at hu; rcases hu with h | h | h | h | h | h | h <;> (subst h; rfl))); (try rw [hst]); (try go_simp)
        refine hK.out _ _ ?_ (fun hHeld => ?_)
        ·trivial
        clear hK K
        (try simp only [zA])
        refine wpAnyH_done (by kernel_rfl) ?_ _
        exact T nb lb ob k nd tt a b tx P L c vx ⟨O, C, N, OW, HNE.out, QO, hob, hx, hm⟩
       ·go_simp
        (have A6 := Below.nw vx (.cells #[.int .i64 0, .int .i64 0, .int .i64 0, .int .i64 0, .int .i64 0, .string ⟨#[]⟩, .slice none 0 0] 26)); (have QO := Bo.new vx #[.int .i64 0, .int .i64 0, .int .i64 0, .int .i64 0, .int .i64 0, .string ⟨#[]⟩, .slice none 0 0] 26); (replace C := C.below A6); (replace N := N.trans (au A6 (by omega))); (replace O := O.below A6); (try replace F1 := F1.below A6); (try replace F2 := F2.below A6); (try replace QO := QO.below A6); (have hT2 : t0 < (vx.alloc (.cells #[.int .i64 0, .int .i64 0, .int .i64 0, .int .i64 0, .int .i64 0, .string ⟨#[]⟩, .slice none 0 0] 26)).heap.size := by simp; omega); (have hob : t0 ≤ vx.heap.size := hT); (clear A6 hT); (have hT := Nat.le_of_lt hT2); (clear hT2); (generalize vx.alloc (.cells #[.int .i64 0, .int .i64 0, .int .i64 0, .int .i64 0, .int .i64 0, .string ⟨#[]⟩, .slice none 0 0] 26) = vx' at *); (generalize vx.heap.size = ob at *); (clear vx); (generalize vx' = vx at *)
        refine hK.out _ _ ?_ (fun hHeld => ?_)
        ·trivial
        clear hK K
        (try simp only [zA])
        refine zQ 4 fun K hK => ?_
        go_simp
        (have QOlt : Hid (ob < vx.heap.size) := QO.1); refine (am B p lb nb vx C ⟨⟨F2.1, by omega, F2.2⟩, F1.1, by omega, F1.2⟩).mono ?_; rintro e vy hop; obtain ⟨k, nd, tt, a, b, tx, P, L, c, rfl, hx, hm, ho, hc, hb, hk, hq⟩ := hop; (have hbb : But p vx vy := hb); (replace O := O.but hbb hp); (try replace QO := QO.but hbb (by omega)); (replace N := N.trans (hbb.belP (by omega))); (have C2 := hc); (clear C); (have C := C2); (clear C2); (have OW := ah ho (show t0 ≤ vx.heap.size by omega)); (have HNE : Hid (∀ q, (Value.slice P L.length c).ownBlock = some q → q ≠ ob) := fun q hqq => by (have q1 := QOlt.out); rcases hq q hqq with e | e; (· cases e); (· omega)); (have hT2 : t0 ≤ vy.heap.size := Nat.le_trans hT hbb.2.2.2.1); (clear hT ho hc hb hk hq hbb F1 F2); (have hT := hT2); (clear hT2); (try clear QOlt); (clear vx); (generalize vy = vx at *)
        (try go_wp2_with fail)
        refine hK.out _ _ ?_ (fun hHeld => ?_)
        ·trivial
        clear hK K
        (try simp only [zA])
        refine zQ 6 fun K hK => ?_
        go_simp
        (have hst := Bo.store (P := Tryz.prog) (b := 0) [.int .i64 k, .int .i64 nd, .int .i64 tt, .int .i64 a, .int .i64 b, .string tx, .slice P L.length c] 0 0 QO rfl (by simp) (by intro u hu; simp only [List.mem_cons, List.not_mem_nil, or_false] at hu; rcases hu with h | h | h | h | h | h | h <;> (subst h; rfl))); (try rw [hst]); (try go_simp)
        refine hK.out _ _ ?_ (fun hHeld => ?_)
        ·trivial
        clear hK K
        (try simp only [zA])
        refine wpAnyH_done (by kernel_rfl) ?_ _
        exact T nb lb ob k nd tt a b tx P L c vx ⟨O, C, N, OW, HNE.out, QO, hob, hx, hm⟩
      ·go_simp
       (have A6 := Below.nw vx (.cells #[.int .i64 0, .int .i64 0, .int .i64 0, .int .i64 0, .int .i64 0, .string ⟨#[]⟩, .slice none 0 0] 26)); (have QO := Bo.new vx #[.int .i64 0, .int .i64 0, .int .i64 0, .int .i64 0, .int .i64 0, .string ⟨#[]⟩, .slice none 0 0] 26); (replace C := C.below A6); (replace N := N.trans (au A6 (by omega))); (replace O := O.below A6); (try replace F1 := F1.below A6); (try replace F2 := F2.below A6); (try replace QO := QO.below A6); (have hT2 : t0 < (vx.alloc (.cells #[.int .i64 0, .int .i64 0, .int .i64 0, .int .i64 0, .int .i64 0, .string ⟨#[]⟩, .slice none 0 0] 26)).heap.size := by simp; omega); (have hob : t0 ≤ vx.heap.size := hT); (clear A6 hT); (have hT := Nat.le_of_lt hT2); (clear hT2); (generalize vx.alloc (.cells #[.int .i64 0, .int .i64 0, .int .i64 0, .int .i64 0, .int .i64 0, .string ⟨#[]⟩, .slice none 0 0] 26) = vx' at *); (generalize vx.heap.size = ob at *); (clear vx); (generalize vx' = vx at *)
       refine hK.out _ _ ?_ (fun hHeld => ?_)
       ·trivial
       clear hK K
       (try simp only [zA])
       refine zQ 2 fun K hK => ?_
       go_simp
       (try rw [cl vx]); (try go_simp); (have A6 := Below.nw vx (.cells (madeCells #[.bool false] 4) 4)); (have F2 : LiF (vx.alloc (.cells (madeCells #[.bool false] 4) 4)) vx.heap.size := LiF.new vx); (replace C := C.below A6); (replace N := N.trans (au A6 (by omega))); (replace O := O.below A6); (try replace F1 := F1.below A6); (try replace F2 := F2.below A6); (try replace QO := QO.below A6); (have hT2 : t0 < (vx.alloc (.cells (madeCells #[.bool false] 4) 4)).heap.size := by simp; omega); (have hlb : t0 ≤ vx.heap.size := hT); (clear A6 hT); (have hT := Nat.le_of_lt hT2); (clear hT2); (generalize vx.alloc (.cells (madeCells #[.bool false] 4) 4) = vx' at *); (generalize vx.heap.size = lb at *); (clear vx); (generalize vx' = vx at *)
       refine hK.out _ _ ?_ (fun hHeld => ?_)
       ·trivial
       clear hK K
       (try simp only [zA])
       refine zTk 3 ?_
       refine zQ 4 fun K hK => ?_
       go_simp
       (have QOlt : Hid (ob < vx.heap.size) := QO.1); refine (am B p lb nb vx C ⟨⟨F2.1, by omega, F2.2⟩, F1.1, by omega, F1.2⟩).mono ?_; rintro e vy hop; obtain ⟨k, nd, tt, a, b, tx, P, L, c, rfl, hx, hm, ho, hc, hb, hk, hq⟩ := hop; (have hbb : But p vx vy := hb); (replace O := O.but hbb hp); (try replace QO := QO.but hbb (by omega)); (replace N := N.trans (hbb.belP (by omega))); (have C2 := hc); (clear C); (have C := C2); (clear C2); (have OW := ah ho (show t0 ≤ vx.heap.size by omega)); (have HNE : Hid (∀ q, (Value.slice P L.length c).ownBlock = some q → q ≠ ob) := fun q hqq => by (have q1 := QOlt.out); rcases hq q hqq with e | e; (· cases e); (· omega)); (have hT2 : t0 ≤ vy.heap.size := Nat.le_trans hT hbb.2.2.2.1); (clear hT ho hc hb hk hq hbb F1 F2); (have hT := hT2); (clear hT2); (try clear QOlt); (clear vx); (generalize vy = vx at *)
       (try go_wp2_with fail)
       refine hK.out _ _ ?_ (fun hHeld => ?_)
       ·trivial
       clear hK K
       (try simp only [zA])
       refine zQ 6 fun K hK => ?_
       go_simp
       (have hst := Bo.store (P := Tryz.prog) (b := 0) [.int .i64 k, .int .i64 nd, .int .i64 tt, .int .i64 a, .int .i64 b, .string tx, .slice P L.length c] 0 0 QO rfl (by simp) (by intro u hu; simp only [List.mem_cons, List.not_mem_nil, or_false] at hu; rcases hu with h | h | h | h | h | h | h <;> (subst h; rfl))); (try rw [hst]); (try go_simp)
       refine hK.out _ _ ?_ (fun hHeld => ?_)
       ·trivial
       clear hK K
       (try simp only [zA])
       refine wpAnyH_done (by kernel_rfl) ?_ _
       exact T nb lb ob k nd tt a b tx P L c vx ⟨O, C, N, OW, HNE.out, QO, hob, hx, hm⟩
     ·go_simp
      (try rw [cl vx]); (try go_simp); (have A6 := Below.nw vx (.cells (madeCells #[.bool false] 4) 4)); (have F2 : LiF (vx.alloc (.cells (madeCells #[.bool false] 4) 4)) vx.heap.size := LiF.new vx); (replace C := C.below A6); (replace N := N.trans (au A6 (by omega))); (replace O := O.below A6); (try replace F1 := F1.below A6); (try replace F2 := F2.below A6); (try replace QO := QO.below A6); (have hT2 : t0 < (vx.alloc (.cells (madeCells #[.bool false] 4) 4)).heap.size := by simp; omega); (have hlb : t0 ≤ vx.heap.size := hT); (clear A6 hT); (have hT := Nat.le_of_lt hT2); (clear hT2); (generalize vx.alloc (.cells (madeCells #[.bool false] 4) 4) = vx' at *); (generalize vx.heap.size = lb at *); (clear vx); (generalize vx' = vx at *)
      refine hK.out _ _ ?_ (fun hHeld => ?_)
      ·trivial
      clear hK K
      (try simp only [zA])
      refine wpAnyH_ready (rs := [1, 5]) (by kernel_rfl) (by simp) ?_
      refine (zC (fun K hK => ?_) (zR fun K hK => ?_))
      ·go_simp
       (try rw [cm vx]); (try go_simp); (have A6 := Below.nw vx (.cells (madeCells #[.int .i64 0, .int .i64 0, .int .i64 0, .int .i64 0, .bool false, .int .i64 0, .int .i64 0, .int .i64 0, .int .i64 0, .int .i64 0, .slice none 0 0, .slice none 0 0, .bool false, .int .i64 0, .slice none 0 0, .int .i64 0] 64) 145)); (have F1 : NdF (vx.alloc (.cells (madeCells #[.int .i64 0, .int .i64 0, .int .i64 0, .int .i64 0, .bool false, .int .i64 0, .int .i64 0, .int .i64 0, .int .i64 0, .int .i64 0, .slice none 0 0, .slice none 0 0, .bool false, .int .i64 0, .slice none 0 0, .int .i64 0] 64) 145)) vx.heap.size := NdF.new vx); (replace C := C.below A6); (replace N := N.trans (au A6 (by omega))); (replace O := O.below A6); (try replace F1 := F1.below A6); (try replace F2 := F2.below A6); (try replace QO := QO.below A6); (have hT2 : t0 < (vx.alloc (.cells (madeCells #[.int .i64 0, .int .i64 0, .int .i64 0, .int .i64 0, .bool false, .int .i64 0, .int .i64 0, .int .i64 0, .int .i64 0, .int .i64 0, .slice none 0 0, .slice none 0 0, .bool false, .int .i64 0, .slice none 0 0, .int .i64 0] 64) 145)).heap.size := by simp; omega); (have hnb : t0 ≤ vx.heap.size := hT); (clear A6 hT); (have hT := Nat.le_of_lt hT2); (clear hT2); (generalize vx.alloc (.cells (madeCells #[.int .i64 0, .int .i64 0, .int .i64 0, .int .i64 0, .bool false, .int .i64 0, .int .i64 0, .int .i64 0, .int .i64 0, .int .i64 0, .slice none 0 0, .slice none 0 0, .bool false, .int .i64 0, .slice none 0 0, .int .i64 0] 64) 145) = vx' at *); (generalize vx.heap.size = nb at *); (clear vx); (generalize vx' = vx at *)
       refine hK.out _ _ ?_ (fun hHeld => ?_)
       ·trivial
       clear hK K
       (try simp only [zA])
       refine zTk 3 ?_
       refine wpAnyH_ready (rs := [4, 5]) (by kernel_rfl) (by simp) ?_
       refine (zC (fun K hK => ?_) (zR fun K hK => ?_))
       ·go_simp
        refine (am B p lb nb vx C ⟨⟨F2.1, by omega, F2.2⟩, F1.1, by omega, F1.2⟩).mono ?_; rintro e vy hop; obtain ⟨k, nd, tt, a, b, tx, P, L, c, rfl, hx, hm, ho, hc, hb, hk, hq⟩ := hop; (have hbb : But p vx vy := hb); (replace O := O.but hbb hp); (try replace QO := QO.but hbb (by omega)); (replace N := N.trans (hbb.belP (by omega))); (have C2 := hc); (clear C); (have C := C2); (clear C2); (have OW := ah ho (show t0 ≤ vx.heap.size by omega)); (have hT2 : t0 ≤ vy.heap.size := Nat.le_trans hT hbb.2.2.2.1); (clear hT ho hc hb hk hq hbb F1 F2); (have hT := hT2); (clear hT2); (try clear QOlt); (clear vx); (generalize vy = vx at *)
        (try go_wp2_with fail)
        refine hK.out _ _ ?_ (fun hHeld => ?_)
        ·trivial
        clear hK K
        (try simp only [zA])
        refine zQ 5 fun K hK => ?_
        go_simp
        (have A6 := Below.nw vx (.cells #[.int .i64 0, .int .i64 0, .int .i64 0, .int .i64 0, .int .i64 0, .string ⟨#[]⟩, .slice none 0 0] 26)); (have QO := Bo.new vx #[.int .i64 0, .int .i64 0, .int .i64 0, .int .i64 0, .int .i64 0, .string ⟨#[]⟩, .slice none 0 0] 26); (have HNE : Hid (∀ q, (Value.slice P L.length c).ownBlock = some q → q ≠ vx.heap.size) := fun q hq => by have := (World.ownsRow.lt OW q hq).2; omega); (replace C := C.below A6); (replace N := N.trans (au A6 (by omega))); (replace O := O.below A6); (try replace F1 := F1.below A6); (try replace F2 := F2.below A6); (try replace QO := QO.below A6); (replace OW := ax OW A6); (have hT2 : t0 < (vx.alloc (.cells #[.int .i64 0, .int .i64 0, .int .i64 0, .int .i64 0, .int .i64 0, .string ⟨#[]⟩, .slice none 0 0] 26)).heap.size := by simp; omega); (have hob : t0 ≤ vx.heap.size := hT); (clear A6 hT); (have hT := Nat.le_of_lt hT2); (clear hT2); (generalize vx.alloc (.cells #[.int .i64 0, .int .i64 0, .int .i64 0, .int .i64 0, .int .i64 0, .string ⟨#[]⟩, .slice none 0 0] 26) = vx' at *); (generalize vx.heap.size = ob at *); (clear vx); (generalize vx' = vx at *)
        refine hK.out _ _ ?_ (fun hHeld => ?_)
        ·trivial
        clear hK K
        (try simp only [zA])
        refine zQ 6 fun K hK => ?_
        go_simp
        (have hst := Bo.store (P := Tryz.prog) (b := 0) [.int .i64 k, .int .i64 nd, .int .i64 tt, .int .i64 a, .int .i64 b, .string tx, .slice P L.length c] 0 0 QO rfl (by simp) (by intro u hu; simp only [List.mem_cons, List.not_mem_nil, or_false] at hu; rcases hu with h | h | h | h | h | h | h <;> (subst h; rfl))); (try rw [hst]); (try go_simp)
        refine hK.out _ _ ?_ (fun hHeld => ?_)
        ·trivial
        clear hK K
        (try simp only [zA])
        refine wpAnyH_done (by kernel_rfl) ?_ _
        exact T nb lb ob k nd tt a b tx P L c vx ⟨O, C, N, OW, HNE.out, QO, hob, hx, hm⟩
       ·go_simp
        (have A6 := Below.nw vx (.cells #[.int .i64 0, .int .i64 0, .int .i64 0, .int .i64 0, .int .i64 0, .string ⟨#[]⟩, .slice none 0 0] 26)); (have QO := Bo.new vx #[.int .i64 0, .int .i64 0, .int .i64 0, .int .i64 0, .int .i64 0, .string ⟨#[]⟩, .slice none 0 0] 26); (replace C := C.below A6); (replace N := N.trans (au A6 (by omega))); (replace O := O.below A6); (try replace F1 := F1.below A6); (try replace F2 := F2.below A6); (try replace QO := QO.below A6); (have hT2 : t0 < (vx.alloc (.cells #[.int .i64 0, .int .i64 0, .int .i64 0, .int .i64 0, .int .i64 0, .string ⟨#[]⟩, .slice none 0 0] 26)).heap.size := by simp; omega); (have hob : t0 ≤ vx.heap.size := hT); (clear A6 hT); (have hT := Nat.le_of_lt hT2); (clear hT2); (generalize vx.alloc (.cells #[.int .i64 0, .int .i64 0, .int .i64 0, .int .i64 0, .int .i64 0, .string ⟨#[]⟩, .slice none 0 0] 26) = vx' at *); (generalize vx.heap.size = ob at *); (clear vx); (generalize vx' = vx at *)
        refine hK.out _ _ ?_ (fun hHeld => ?_)
        ·trivial
        clear hK K
        (try simp only [zA])
        refine zQ 4 fun K hK => ?_
        go_simp
        (have QOlt : Hid (ob < vx.heap.size) := QO.1); refine (am B p lb nb vx C ⟨⟨F2.1, by omega, F2.2⟩, F1.1, by omega, F1.2⟩).mono ?_; rintro e vy hop; obtain ⟨k, nd, tt, a, b, tx, P, L, c, rfl, hx, hm, ho, hc, hb, hk, hq⟩ := hop; (have hbb : But p vx vy := hb); (replace O := O.but hbb hp); (try replace QO := QO.but hbb (by omega)); (replace N := N.trans (hbb.belP (by omega))); (have C2 := hc); (clear C); (have C := C2); (clear C2); (have OW := ah ho (show t0 ≤ vx.heap.size by omega)); (have HNE : Hid (∀ q, (Value.slice P L.length c).ownBlock = some q → q ≠ ob) := fun q hqq => by (have q1 := QOlt.out); rcases hq q hqq with e | e; (· cases e); (· omega)); (have hT2 : t0 ≤ vy.heap.size := Nat.le_trans hT hbb.2.2.2.1); (clear hT ho hc hb hk hq hbb F1 F2); (have hT := hT2); (clear hT2); (try clear QOlt); (clear vx); (generalize vy = vx at *)
        (try go_wp2_with fail)
        refine hK.out _ _ ?_ (fun hHeld => ?_)
        ·trivial
        clear hK K
        (try simp only [zA])
        refine zQ 6 fun K hK => ?_
        go_simp
        (have hst := Bo.store (P := Tryz.prog) (b := 0) [.int .i64 k, .int .i64 nd, .int .i64 tt, .int .i64 a, .int .i64 b, .string tx, .slice P L.length c] 0 0 QO rfl (by simp) (by intro u hu; simp only [List.mem_cons, List.not_mem_nil, or_false] at hu; rcases hu with h | h | h | h | h | h | h <;> (subst h; rfl))); (try rw [hst]); (try go_simp)
        refine hK.out _ _ ?_ (fun hHeld => ?_)
        ·trivial
        clear hK K
        (try simp only [zA])
        refine wpAnyH_done (by kernel_rfl) ?_ _
        exact T nb lb ob k nd tt a b tx P L c vx ⟨O, C, N, OW, HNE.out, QO, hob, hx, hm⟩
      ·go_simp
       (have A6 := Below.nw vx (.cells #[.int .i64 0, .int .i64 0, .int .i64 0, .int .i64 0, .int .i64 0, .string ⟨#[]⟩, .slice none 0 0] 26)); (have QO := Bo.new vx #[.int .i64 0, .int .i64 0, .int .i64 0, .int .i64 0, .int .i64 0, .string ⟨#[]⟩, .slice none 0 0] 26); (replace C := C.below A6); (replace N := N.trans (au A6 (by omega))); (replace O := O.below A6); (try replace F1 := F1.below A6); (try replace F2 := F2.below A6); (try replace QO := QO.below A6); (have hT2 : t0 < (vx.alloc (.cells #[.int .i64 0, .int .i64 0, .int .i64 0, .int .i64 0, .int .i64 0, .string ⟨#[]⟩, .slice none 0 0] 26)).heap.size := by simp; omega); (have hob : t0 ≤ vx.heap.size := hT); (clear A6 hT); (have hT := Nat.le_of_lt hT2); (clear hT2); (generalize vx.alloc (.cells #[.int .i64 0, .int .i64 0, .int .i64 0, .int .i64 0, .int .i64 0, .string ⟨#[]⟩, .slice none 0 0] 26) = vx' at *); (generalize vx.heap.size = ob at *); (clear vx); (generalize vx' = vx at *)
       refine hK.out _ _ ?_ (fun hHeld => ?_)
       ·trivial
       clear hK K
       (try simp only [zA])
       refine zQ 1 fun K hK => ?_
       go_simp
       (try rw [cm vx]); (try go_simp); (have A6 := Below.nw vx (.cells (madeCells #[.int .i64 0, .int .i64 0, .int .i64 0, .int .i64 0, .bool false, .int .i64 0, .int .i64 0, .int .i64 0, .int .i64 0, .int .i64 0, .slice none 0 0, .slice none 0 0, .bool false, .int .i64 0, .slice none 0 0, .int .i64 0] 64) 145)); (have F1 : NdF (vx.alloc (.cells (madeCells #[.int .i64 0, .int .i64 0, .int .i64 0, .int .i64 0, .bool false, .int .i64 0, .int .i64 0, .int .i64 0, .int .i64 0, .int .i64 0, .slice none 0 0, .slice none 0 0, .bool false, .int .i64 0, .slice none 0 0, .int .i64 0] 64) 145)) vx.heap.size := NdF.new vx); (replace C := C.below A6); (replace N := N.trans (au A6 (by omega))); (replace O := O.below A6); (try replace F1 := F1.below A6); (try replace F2 := F2.below A6); (try replace QO := QO.below A6); (have hT2 : t0 < (vx.alloc (.cells (madeCells #[.int .i64 0, .int .i64 0, .int .i64 0, .int .i64 0, .bool false, .int .i64 0, .int .i64 0, .int .i64 0, .int .i64 0, .int .i64 0, .slice none 0 0, .slice none 0 0, .bool false, .int .i64 0, .slice none 0 0, .int .i64 0] 64) 145)).heap.size := by simp; omega); (have hnb : t0 ≤ vx.heap.size := hT); (clear A6 hT); (have hT := Nat.le_of_lt hT2); (clear hT2); (generalize vx.alloc (.cells (madeCells #[.int .i64 0, .int .i64 0, .int .i64 0, .int .i64 0, .bool false, .int .i64 0, .int .i64 0, .int .i64 0, .int .i64 0, .int .i64 0, .slice none 0 0, .slice none 0 0, .bool false, .int .i64 0, .slice none 0 0, .int .i64 0] 64) 145) = vx' at *); (generalize vx.heap.size = nb at *); (clear vx); (generalize vx' = vx at *)
       refine hK.out _ _ ?_ (fun hHeld => ?_)
       ·trivial
       clear hK K
       (try simp only [zA])
       refine zTk 3 ?_
       refine zQ 4 fun K hK => ?_
       go_simp
       (have QOlt : Hid (ob < vx.heap.size) := QO.1); refine (am B p lb nb vx C ⟨⟨F2.1, by omega, F2.2⟩, F1.1, by omega, F1.2⟩).mono ?_; rintro e vy hop; obtain ⟨k, nd, tt, a, b, tx, P, L, c, rfl, hx, hm, ho, hc, hb, hk, hq⟩ := hop; (have hbb : But p vx vy := hb); (replace O := O.but hbb hp); (try replace QO := QO.but hbb (by omega)); (replace N := N.trans (hbb.belP (by omega))); (have C2 := hc); (clear C); (have C := C2); (clear C2); (have OW := ah ho (show t0 ≤ vx.heap.size by omega)); (have HNE : Hid (∀ q, (Value.slice P L.length c).ownBlock = some q → q ≠ ob) := fun q hqq => by (have q1 := QOlt.out); rcases hq q hqq with e | e; (· cases e); (· omega)); (have hT2 : t0 ≤ vy.heap.size := Nat.le_trans hT hbb.2.2.2.1); (clear hT ho hc hb hk hq hbb F1 F2); (have hT := hT2); (clear hT2); (try clear QOlt); (clear vx); (generalize vy = vx at *)
       (try go_wp2_with fail)
       refine hK.out _ _ ?_ (fun hHeld => ?_)
       ·trivial
       clear hK K
       (try simp only [zA])
       refine zQ 6 fun K hK => ?_
       go_simp
       (have hst := Bo.store (P := Tryz.prog) (b := 0) [.int .i64 k, .int .i64 nd, .int .i64 tt, .int .i64 a, .int .i64 b, .string tx, .slice P L.length c] 0 0 QO rfl (by simp) (by intro u hu; simp only [List.mem_cons, List.not_mem_nil, or_false] at hu; rcases hu with h | h | h | h | h | h | h <;> (subst h; rfl))); (try rw [hst]); (try go_simp)
       refine hK.out _ _ ?_ (fun hHeld => ?_)
       ·trivial
       clear hK K
       (try simp only [zA])
       refine wpAnyH_done (by kernel_rfl) ?_ _
       exact T nb lb ob k nd tt a b tx P L c vx ⟨O, C, N, OW, HNE.out, QO, hob, hx, hm⟩
     ·go_simp
      (have A6 := Below.nw vx (.cells #[.int .i64 0, .int .i64 0, .int .i64 0, .int .i64 0, .int .i64 0, .string ⟨#[]⟩, .slice none 0 0] 26)); (have QO := Bo.new vx #[.int .i64 0, .int .i64 0, .int .i64 0, .int .i64 0, .int .i64 0, .string ⟨#[]⟩, .slice none 0 0] 26); (replace C := C.below A6); (replace N := N.trans (au A6 (by omega))); (replace O := O.below A6); (try replace F1 := F1.below A6); (try replace F2 := F2.below A6); (try replace QO := QO.below A6); (have hT2 : t0 < (vx.alloc (.cells #[.int .i64 0, .int .i64 0, .int .i64 0, .int .i64 0, .int .i64 0, .string ⟨#[]⟩, .slice none 0 0] 26)).heap.size := by simp; omega); (have hob : t0 ≤ vx.heap.size := hT); (clear A6 hT); (have hT := Nat.le_of_lt hT2); (clear hT2); (generalize vx.alloc (.cells #[.int .i64 0, .int .i64 0, .int .i64 0, .int .i64 0, .int .i64 0, .string ⟨#[]⟩, .slice none 0 0] 26) = vx' at *); (generalize vx.heap.size = ob at *); (clear vx); (generalize vx' = vx at *)
      refine hK.out _ _ ?_ (fun hHeld => ?_)
      ·trivial
      clear hK K
      (try simp only [zA])
      refine wpAnyH_ready (rs := [1, 2]) (by kernel_rfl) (by simp) ?_
      refine (zC (fun K hK => ?_) (zR fun K hK => ?_))
      ·go_simp
       (try rw [cm vx]); (try go_simp); (have A6 := Below.nw vx (.cells (madeCells #[.int .i64 0, .int .i64 0, .int .i64 0, .int .i64 0, .bool false, .int .i64 0, .int .i64 0, .int .i64 0, .int .i64 0, .int .i64 0, .slice none 0 0, .slice none 0 0, .bool false, .int .i64 0, .slice none 0 0, .int .i64 0] 64) 145)); (have F1 : NdF (vx.alloc (.cells (madeCells #[.int .i64 0, .int .i64 0, .int .i64 0, .int .i64 0, .bool false, .int .i64 0, .int .i64 0, .int .i64 0, .int .i64 0, .int .i64 0, .slice none 0 0, .slice none 0 0, .bool false, .int .i64 0, .slice none 0 0, .int .i64 0] 64) 145)) vx.heap.size := NdF.new vx); (replace C := C.below A6); (replace N := N.trans (au A6 (by omega))); (replace O := O.below A6); (try replace F1 := F1.below A6); (try replace F2 := F2.below A6); (try replace QO := QO.below A6); (have hT2 : t0 < (vx.alloc (.cells (madeCells #[.int .i64 0, .int .i64 0, .int .i64 0, .int .i64 0, .bool false, .int .i64 0, .int .i64 0, .int .i64 0, .int .i64 0, .int .i64 0, .slice none 0 0, .slice none 0 0, .bool false, .int .i64 0, .slice none 0 0, .int .i64 0] 64) 145)).heap.size := by simp; omega); (have hnb : t0 ≤ vx.heap.size := hT); (clear A6 hT); (have hT := Nat.le_of_lt hT2); (clear hT2); (generalize vx.alloc (.cells (madeCells #[.int .i64 0, .int .i64 0, .int .i64 0, .int .i64 0, .bool false, .int .i64 0, .int .i64 0, .int .i64 0, .int .i64 0, .int .i64 0, .slice none 0 0, .slice none 0 0, .bool false, .int .i64 0, .slice none 0 0, .int .i64 0] 64) 145) = vx' at *); (generalize vx.heap.size = nb at *); (clear vx); (generalize vx' = vx at *)
       refine hK.out _ _ ?_ (fun hHeld => ?_)
       ·trivial
       clear hK K
       (try simp only [zA])
       refine zQ 2 fun K hK => ?_
       go_simp
       (try rw [cl vx]); (try go_simp); (have A6 := Below.nw vx (.cells (madeCells #[.bool false] 4) 4)); (have F2 : LiF (vx.alloc (.cells (madeCells #[.bool false] 4) 4)) vx.heap.size := LiF.new vx); (replace C := C.below A6); (replace N := N.trans (au A6 (by omega))); (replace O := O.below A6); (try replace F1 := F1.below A6); (try replace F2 := F2.below A6); (try replace QO := QO.below A6); (have hT2 : t0 < (vx.alloc (.cells (madeCells #[.bool false] 4) 4)).heap.size := by simp; omega); (have hlb : t0 ≤ vx.heap.size := hT); (clear A6 hT); (have hT := Nat.le_of_lt hT2); (clear hT2); (generalize vx.alloc (.cells (madeCells #[.bool false] 4) 4) = vx' at *); (generalize vx.heap.size = lb at *); (clear vx); (generalize vx' = vx at *)
       refine hK.out _ _ ?_ (fun hHeld => ?_)
       ·trivial
       clear hK K
       (try simp only [zA])
       refine zTk 3 ?_
       refine zQ 4 fun K hK => ?_
       go_simp
       (have QOlt : Hid (ob < vx.heap.size) := QO.1); refine (am B p lb nb vx C ⟨⟨F2.1, by omega, F2.2⟩, F1.1, by omega, F1.2⟩).mono ?_; rintro e vy hop; obtain ⟨k, nd, tt, a, b, tx, P, L, c, rfl, hx, hm, ho, hc, hb, hk, hq⟩ := hop; (have hbb : But p vx vy := hb); (replace O := O.but hbb hp); (try replace QO := QO.but hbb (by omega)); (replace N := N.trans (hbb.belP (by omega))); (have C2 := hc); (clear C); (have C := C2); (clear C2); (have OW := ah ho (show t0 ≤ vx.heap.size by omega)); (have HNE : Hid (∀ q, (Value.slice P L.length c).ownBlock = some q → q ≠ ob) := fun q hqq => by (have q1 := QOlt.out); rcases hq q hqq with e | e; (· cases e); (· omega)); (have hT2 : t0 ≤ vy.heap.size := Nat.le_trans hT hbb.2.2.2.1); (clear hT ho hc hb hk hq hbb F1 F2); (have hT := hT2); (clear hT2); (try clear QOlt); (clear vx); (generalize vy = vx at *)
       (try go_wp2_with fail)
       refine hK.out _ _ ?_ (fun hHeld => ?_)
       ·trivial
       clear hK K
       (try simp only [zA])
       refine zQ 6 fun K hK => ?_
       go_simp
       (have hst := Bo.store (P := Tryz.prog) (b := 0) [.int .i64 k, .int .i64 nd, .int .i64 tt, .int .i64 a, .int .i64 b, .string tx, .slice P L.length c] 0 0 QO rfl (by simp) (by intro u hu; simp only [List.mem_cons, List.not_mem_nil, or_false] at hu; rcases hu with h | h | h | h | h | h | h <;> (subst h; rfl))); (try rw [hst]); (try go_simp)
       refine hK.out _ _ ?_ (fun hHeld => ?_)
       ·trivial
       clear hK K
       (try simp only [zA])
       refine wpAnyH_done (by kernel_rfl) ?_ _
       exact T nb lb ob k nd tt a b tx P L c vx ⟨O, C, N, OW, HNE.out, QO, hob, hx, hm⟩
      ·go_simp
       (try rw [cl vx]); (try go_simp); (have A6 := Below.nw vx (.cells (madeCells #[.bool false] 4) 4)); (have F2 : LiF (vx.alloc (.cells (madeCells #[.bool false] 4) 4)) vx.heap.size := LiF.new vx); (replace C := C.below A6); (replace N := N.trans (au A6 (by omega))); (replace O := O.below A6); (try replace F1 := F1.below A6); (try replace F2 := F2.below A6); (try replace QO := QO.below A6); (have hT2 : t0 < (vx.alloc (.cells (madeCells #[.bool false] 4) 4)).heap.size := by simp; omega); (have hlb : t0 ≤ vx.heap.size := hT); (clear A6 hT); (have hT := Nat.le_of_lt hT2); (clear hT2); (generalize vx.alloc (.cells (madeCells #[.bool false] 4) 4) = vx' at *); (generalize vx.heap.size = lb at *); (clear vx); (generalize vx' = vx at *)
       refine hK.out _ _ ?_ (fun hHeld => ?_)
       ·trivial
       clear hK K
       (try simp only [zA])
       refine zQ 1 fun K hK => ?_
       go_simp
       (try rw [cm vx]); (try go_simp); (have A6 := Below.nw vx (.cells (madeCells #[.int .i64 0, .int .i64 0, .int .i64 0, .int .i64 0, .bool false, .int .i64 0, .int .i64 0, .int .i64 0, .int .i64 0, .int .i64 0, .slice none 0 0, .slice none 0 0, .bool false, .int .i64 0, .slice none 0 0, .int .i64 0] 64) 145)); (have F1 : NdF (vx.alloc (.cells (madeCells #[.int .i64 0, .int .i64 0, .int .i64 0, .int .i64 0, .bool false, .int .i64 0, .int .i64 0, .int .i64 0, .int .i64 0, .int .i64 0, .slice none 0 0, .slice none 0 0, .bool false, .int .i64 0, .slice none 0 0, .int .i64 0] 64) 145)) vx.heap.size := NdF.new vx); (replace C := C.below A6); (replace N := N.trans (au A6 (by omega))); (replace O := O.below A6); (try replace F1 := F1.below A6); (try replace F2 := F2.below A6); (try replace QO := QO.below A6); (have hT2 : t0 < (vx.alloc (.cells (madeCells #[.int .i64 0, .int .i64 0, .int .i64 0, .int .i64 0, .bool false, .int .i64 0, .int .i64 0, .int .i64 0, .int .i64 0, .int .i64 0, .slice none 0 0, .slice none 0 0, .bool false, .int .i64 0, .slice none 0 0, .int .i64 0] 64) 145)).heap.size := by simp; omega); (have hnb : t0 ≤ vx.heap.size := hT); (clear A6 hT); (have hT := Nat.le_of_lt hT2); (clear hT2); (generalize vx.alloc (.cells (madeCells #[.int .i64 0, .int .i64 0, .int .i64 0, .int .i64 0, .bool false, .int .i64 0, .int .i64 0, .int .i64 0, .int .i64 0, .int .i64 0, .slice none 0 0, .slice none 0 0, .bool false, .int .i64 0, .slice none 0 0, .int .i64 0] 64) 145) = vx' at *); (generalize vx.heap.size = nb at *); (clear vx); (generalize vx' = vx at *)
       refine hK.out _ _ ?_ (fun hHeld => ?_)
       ·trivial
       clear hK K
       (try simp only [zA])
       refine zTk 3 ?_
       refine zQ 4 fun K hK => ?_
       go_simp
       (have QOlt : Hid (ob < vx.heap.size) := QO.1); refine (am B p lb nb vx C ⟨⟨F2.1, by omega, F2.2⟩, F1.1, by omega, F1.2⟩).mono ?_; rintro e vy hop; obtain ⟨k, nd, tt, a, b, tx, P, L, c, rfl, hx, hm, ho, hc, hb, hk, hq⟩ := hop; (have hbb : But p vx vy := hb); (replace O := O.but hbb hp); (try replace QO := QO.but hbb (by omega)); (replace N := N.trans (hbb.belP (by omega))); (have C2 := hc); (clear C); (have C := C2); (clear C2); (have OW := ah ho (show t0 ≤ vx.heap.size by omega)); (have HNE : Hid (∀ q, (Value.slice P L.length c).ownBlock = some q → q ≠ ob) := fun q hqq => by (have q1 := QOlt.out); rcases hq q hqq with e | e; (· cases e); (· omega)); (have hT2 : t0 ≤ vy.heap.size := Nat.le_trans hT hbb.2.2.2.1); (clear hT ho hc hb hk hq hbb F1 F2); (have hT := hT2); (clear hT2); (try clear QOlt); (clear vx); (generalize vy = vx at *)
       (try go_wp2_with fail)
       refine hK.out _ _ ?_ (fun hHeld => ?_)
       ·trivial
       clear hK K
       (try simp only [zA])
       refine zQ 6 fun K hK => ?_
       go_simp
       (have hst := Bo.store (P := Tryz.prog) (b := 0) [.int .i64 k, .int .i64 nd, .int .i64 tt, .int .i64 a, .int .i64 b, .string tx, .slice P L.length c] 0 0 QO rfl (by simp) (by intro u hu; simp only [List.mem_cons, List.not_mem_nil, or_false] at hu; rcases hu with h | h | h | h | h | h | h <;> (subst h; rfl))); (try rw [hst]); (try go_simp)
       refine hK.out _ _ ?_ (fun hHeld => ?_)
       ·trivial
       clear hK K
       (try simp only [zA])
       refine wpAnyH_done (by kernel_rfl) ?_ _
       exact T nb lb ob k nd tt a b tx P L c vx ⟨O, C, N, OW, HNE.out, QO, hob, hx, hm⟩
    ·intro nb lb ob k nd tt a b tx P L c vx hF
     obtain ⟨O, C, N, OW, hne, QO, hob, hx, hm⟩ := hF
     have HNE : Hid (∀ q, (Value.slice P L.length c).ownBlock = some q → q ≠ ob) := hne
     clear hne
     have hT : t0 ≤ vx.heap.size := by have := QO.1; omega
     have hst := Bo.store (P := Tryz.prog) (b := 0) [.int .i64 k, .int .i64 nd, .int .i64 tt, .int .i64 a, .int .i64 b, .string tx, .slice P L.length c] 0 0 QO rfl (by simp) (by intro u hu; simp only [List.mem_cons, List.not_mem_nil, or_false] at hu; rcases hu with h | h | h | h | h | h | h <;> (subst h; rfl))
     clear hst
     have hbo : But ob vx (ac vx ob 0 [.int .i64 k, .int .i64 nd, .int .i64 tt, .int .i64 a, .int .i64 b, .string tx, .slice P L.length c]) := ak [.int .i64 k, .int .i64 nd, .int .i64 tt, .int .i64 a, .int .i64 b, .string tx, .slice P L.length c] vx vx 0 (But.refl ob vx)
     have Q1 : Bo (ac vx ob 0 [.int .i64 k, .int .i64 nd, .int .i64 tt, .int .i64 a, .int .i64 b, .string tx, .slice P L.length c]) ob #[.int .i64 k, .int .i64 nd, .int .i64 tt, .int .i64 a, .int .i64 b, .string tx, .slice P L.length c] := QO.putW (U := #[.int .i64 k, .int .i64 nd, .int .i64 tt, .int .i64 a, .int .i64 b, .string tx, .slice P L.length c]) rfl
     have hoT : ob < vx.heap.size := QO.1
     replace O := O.kp hbo.2.2.2.1 (fun g _ ql => hbo.2.2.2.2 g (by omega) (by omega))
     replace OW := ay OW hbo HNE.out
     replace C := aj [.int .i64 k, .int .i64 nd, .int .i64 tt, .int .i64 a, .int .i64 b, .string tx, .slice P L.length c] (show ob ≠ p by omega) (show B ≤ ob by omega) 0 C
     replace N := N.trans (ao (v := vx) [.int .i64 k, .int .i64 nd, .int .i64 tt, .int .i64 a, .int .i64 b, .string tx, .slice P L.length c] (show w.heap.size ≤ ob by omega) 0)
     have hT1 : ob < (ac vx ob 0 [.int .i64 k, .int .i64 nd, .int .i64 tt, .int .i64 a, .int .i64 b, .string tx, .slice P L.length c]).heap.size := by rw [aR]; exact hoT
     clear QO hbo hT hoT HNE
     have QO := Q1
     clear Q1
     generalize ac vx ob 0 [.int .i64 k, .int .i64 nd, .int .i64 tt, .int .i64 a, .int .i64 b, .string tx, .slice P L.length c] = v1 at *
     go_wp2_with fail
     refine (aB B p 60 v1 C).mono ?_
     rintro e v2 ⟨bo, rfl, cc, bb⟩
     replace O := O.but bb hp
     replace QO := QO.but bb (by omega)
     replace OW := br OW bb (by omega)
     replace N := N.trans (bb.belP (by omega))
     have hT2 : ob < v2.heap.size := Nat.lt_of_lt_of_le hT1 bb.2.2.2.1
     clear C bb hT1 v1
     have C := cc
     clear cc
     have hz : ∃ z, (r : Int).tmod 4 = z := ⟨_, rfl⟩
     obtain ⟨z, hz⟩ := hz
     cases bo
     ·by_cases h200 : (200 : Int) ≤ (n : Int)
      ·skip
       have hst := Bo.store (P := Tryz.prog) (b := 0) [.int .i64 6, .int .i64 z, .int .i64 0, .int .i64 0, .int .i64 0, .string ⟨#[]⟩, .slice none 0 0] 0 0 QO rfl (by simp) (by intro u hu; simp only [List.mem_cons, List.not_mem_nil, or_false] at hu; rcases hu with h | h | h | h | h | h | h <;> (subst h; rfl))
       have hbo : But ob v2 (ac v2 ob 0 [.int .i64 6, .int .i64 z, .int .i64 0, .int .i64 0, .int .i64 0, .string ⟨#[]⟩, .slice none 0 0]) := ak [.int .i64 6, .int .i64 z, .int .i64 0, .int .i64 0, .int .i64 0, .string ⟨#[]⟩, .slice none 0 0] v2 v2 0 (But.refl ob v2)
       have Q1 : Bo (ac v2 ob 0 [.int .i64 6, .int .i64 z, .int .i64 0, .int .i64 0, .int .i64 0, .string ⟨#[]⟩, .slice none 0 0]) ob #[.int .i64 6, .int .i64 z, .int .i64 0, .int .i64 0, .int .i64 0, .string ⟨#[]⟩, .slice none 0 0] := QO.putW (U := #[.int .i64 6, .int .i64 z, .int .i64 0, .int .i64 0, .int .i64 0, .string ⟨#[]⟩, .slice none 0 0]) rfl
       replace O := O.kp hbo.2.2.2.1 (fun g _ ql => hbo.2.2.2.2 g (by omega) (by omega))
       replace C := aj [.int .i64 6, .int .i64 z, .int .i64 0, .int .i64 0, .int .i64 0, .string ⟨#[]⟩, .slice none 0 0] (show ob ≠ p by omega) (show B ≤ ob by omega) 0 C
       replace N := N.trans (ao (v := v2) [.int .i64 6, .int .i64 z, .int .i64 0, .int .i64 0, .int .i64 0, .string ⟨#[]⟩, .slice none 0 0] (show w.heap.size ≤ ob by omega) 0)
       clear hbo QO OW hx hm
       have QO := Q1
       clear Q1
       go_upto_region 11 with (first | rw [hz] | rw [hst])
       clear hst
       generalize ac v2 ob 0 [.int .i64 6, .int .i64 z, .int .i64 0, .int .i64 0, .int .i64 0, .string ⟨#[]⟩, .slice none 0 0] = v3 at *
       have hL := QO.load (P := Tryz.prog) (n := 7) rfl
       have LS : LsZ v3 t0 v3.heap.size none 0 (⟨6, z, 0, 0, 0, ⟨#[]⟩, 0, fun _ => 0⟩ : OpD).n (⟨6, z, 0, 0, 0, ⟨#[]⟩, 0, fun _ => 0⟩ : OpD).f := .inl ⟨rfl, rfl, rfl⟩
       go_wp2_with (first | rw [hL] | (at_builtin; refine cF rfl _ _ rfl w.heap.size t0 v3.heap.size XM r u6 (by rfl) _ ⟨6, z, 0, 0, 0, ⟨#[]⟩, 0, fun _ => 0⟩ none 0 rfl O (Nat.zero_le _) (Nat.zero_le _) LS (Nat.le_refl _) rfl (by omega) hbt ?_; intro v8 w8 O8 hb8))
       have C8 := C.belowB hb8 hp
       have N8 := N.trans (au hb8 (Nat.le_refl _))
       clear O C N hb8 LS QO hL
       go_wp2_with fail
       go_roundw
       case rel => exact ⟨r + 1, _, by omega, by go_num, O8, C8, N8⟩
       case measure => simp [intOf]; omega
      ·go_upto_region 11 with fail
       clear hz z
       have hL := QO.load (P := Tryz.prog) (n := 7) rfl
       have LS : LsZ v2 t0 v2.heap.size P c (⟨k, nd, tt, a, b, tx, L.length, gI L⟩ : OpD).n (⟨k, nd, tt, a, b, tx, L.length, gI L⟩ : OpD).f := f8 OW (fun q hq => (World.ownsRow.lt OW q hq).2)
       go_wp2_with (first | rw [hL] | (at_builtin; refine cF rfl _ _ rfl w.heap.size t0 v2.heap.size XM r u6 (by rfl) _ ⟨k, nd, tt, a, b, tx, L.length, gI L⟩ P c rfl O (Nat.le_trans hx (by decide)) (Nat.le_trans hm (by decide)) LS (Nat.le_refl _) rfl (by omega) hbt ?_; intro v8 w8 O8 hb8))
       have C8 := C.belowB hb8 hp
       have N8 := N.trans (au hb8 (Nat.le_refl _))
       clear O C N hb8 LS QO hL
       go_wp2_with fail
       go_roundw
       case rel => exact ⟨r + 1, _, by omega, by go_num, O8, C8, N8⟩
       case measure => simp [intOf]; omega
     ·skip
      have hst := Bo.store (P := Tryz.prog) (b := 0) [.int .i64 6, .int .i64 z, .int .i64 0, .int .i64 0, .int .i64 0, .string ⟨#[]⟩, .slice none 0 0] 0 0 QO rfl (by simp) (by intro u hu; simp only [List.mem_cons, List.not_mem_nil, or_false] at hu; rcases hu with h | h | h | h | h | h | h <;> (subst h; rfl))
      have hbo : But ob v2 (ac v2 ob 0 [.int .i64 6, .int .i64 z, .int .i64 0, .int .i64 0, .int .i64 0, .string ⟨#[]⟩, .slice none 0 0]) := ak [.int .i64 6, .int .i64 z, .int .i64 0, .int .i64 0, .int .i64 0, .string ⟨#[]⟩, .slice none 0 0] v2 v2 0 (But.refl ob v2)
      have Q1 : Bo (ac v2 ob 0 [.int .i64 6, .int .i64 z, .int .i64 0, .int .i64 0, .int .i64 0, .string ⟨#[]⟩, .slice none 0 0]) ob #[.int .i64 6, .int .i64 z, .int .i64 0, .int .i64 0, .int .i64 0, .string ⟨#[]⟩, .slice none 0 0] := QO.putW (U := #[.int .i64 6, .int .i64 z, .int .i64 0, .int .i64 0, .int .i64 0, .string ⟨#[]⟩, .slice none 0 0]) rfl
      replace O := O.kp hbo.2.2.2.1 (fun g _ ql => hbo.2.2.2.2 g (by omega) (by omega))
      replace C := aj [.int .i64 6, .int .i64 z, .int .i64 0, .int .i64 0, .int .i64 0, .string ⟨#[]⟩, .slice none 0 0] (show ob ≠ p by omega) (show B ≤ ob by omega) 0 C
      replace N := N.trans (ao (v := v2) [.int .i64 6, .int .i64 z, .int .i64 0, .int .i64 0, .int .i64 0, .string ⟨#[]⟩, .slice none 0 0] (show w.heap.size ≤ ob by omega) 0)
      clear hbo QO OW hx hm
      have QO := Q1
      clear Q1
      go_upto_region 11 with (first | rw [hz] | rw [hst])
      clear hst
      generalize ac v2 ob 0 [.int .i64 6, .int .i64 z, .int .i64 0, .int .i64 0, .int .i64 0, .string ⟨#[]⟩, .slice none 0 0] = v3 at *
      have hL := QO.load (P := Tryz.prog) (n := 7) rfl
      have LS : LsZ v3 t0 v3.heap.size none 0 (⟨6, z, 0, 0, 0, ⟨#[]⟩, 0, fun _ => 0⟩ : OpD).n (⟨6, z, 0, 0, 0, ⟨#[]⟩, 0, fun _ => 0⟩ : OpD).f := .inl ⟨rfl, rfl, rfl⟩
      go_wp2_with (first | rw [hL] | (at_builtin; refine cF rfl _ _ rfl w.heap.size t0 v3.heap.size XM r u6 (by rfl) _ ⟨6, z, 0, 0, 0, ⟨#[]⟩, 0, fun _ => 0⟩ none 0 rfl O (Nat.zero_le _) (Nat.zero_le _) LS (Nat.le_refl _) rfl (by omega) hbt ?_; intro v8 w8 O8 hb8))
      have C8 := C.belowB hb8 hp
      have N8 := N.trans (au hb8 (Nat.le_refl _))
      clear O C N hb8 LS QO hL
      go_wp2_with fail
      go_roundw
      case rel => exact ⟨r + 1, _, by omega, by go_num, O8, C8, N8⟩
      case measure => simp [intOf]; omega
   ·have hli : ¬ (r : Int) < (n : Int) := by omega
    go_wp2_with fail
    go_ret
    exact ⟨_, rfl, r, by omega, ⟨XM, O⟩, C, N⟩
 ·go_wp2_with fail
  refine (af B p 2 v2 C).mono ?_
  rintro e v3 ⟨y, rfl, y0, y1, yp, yz, cc, bb⟩
  have hy2 := yp (by omega)
  have hwy : IntKind.i64.wrap (200 + y) = 200 + y := Go.IntWalk.i64_in _ ⟨by omega, by omega⟩
  replace N := N.trans (bb.belP N.2.2.2.1)
  clear yp yz y1 C bb hx2 x0
  have C := cc
  clear cc v2
  obtain ⟨n, hn0⟩ := Int.eq_ofNat_of_zero_le (show 0 ≤ 200 + y by omega)
  have hn : n ≤ 201 := by omega
  rw [hn0] at hwy
  go_upto_region 4 with (first | rw [hn0] | fail)
  (try rw [hn0])
  clear hwy hn0 hy2 y0
  have hsz : w.heap.size ≤ v3.heap.size := N.2.2.2.1
  have A6 := Below.nw v3 (.cells #[] 26)
  have O := (bD.made v3 (gX [])).low hsz
  rw [show v3.heap.size + 1 = (v3.alloc (.cells #[] 26)).heap.size by simp] at O
  replace C := C.below A6
  replace N := N.trans (au A6 hsz)
  clear A6
  go_upto_region 5 with fail
  generalize v3.alloc (.cells #[] 26) = va at *
  go_wp2_with fail
  go_loopw [6, 7] (fun out i wr => ∃ (r : Nat) (XM : Nat → OpD), r ≤ n ∧ i = .int .i64 (r : Int) ∧ bD wr w.heap.size wr.heap.size out r XM ∧ aq wr B p ∧ aW w.heap.size p w wr) (fun _ i _ => n - (intOf i).toNat)
  case atStart => exact ⟨0, _, Nat.zero_le _, rfl, O, C, N⟩
  case round =>
   clear O C N hsz
   obtain ⟨r, XM, hr, rfl, O, C, N⟩ := hrel
   have hbt : w.heap.size ≤ wr.heap.size := N.2.2.2.1
   by_cases hlt : r < n
   ·have hli : (r : Int) < (n : Int) := by omega
    have hT : wr.heap.size ≤ wr.heap.size := Nat.le_refl _
    obtain ⟨t0, ht0⟩ : ∃ t0, t0 = wr.heap.size := ⟨_, rfl⟩
    rw [← ht0] at O hbt
    have hT : t0 ≤ wr.heap.size := by omega
    clear ht0
    go_upto_region 8 with fail
    refine wp_region_held_drew (S := (fun _ => True)) (by kernel_rfl) ?_ (fun hHeld => ?_)
    ·trivial
    have hT : t0 ≤ wr.drew.heap.size := hT
    replace C := C.drew
    replace N : aW w.heap.size p w wr.drew := N
    replace O : bD wr.drew w.heap.size t0 u6 r XM := O
    generalize wr.drew = vx at *
    revert O; revert N; revert C; revert hT; revert hHeld; revert vx
    apply mG (F := fun nb lb ob k nd tt a b tx P L c vx => bD vx w.heap.size t0 u6 r XM ∧ aq vx B p ∧ aW w.heap.size p w vx ∧ vx.ownsRow t0 3 1 (.slice P L.length c) L.length (aG L) ∧ (∀ q, (Value.slice P L.length c).ownBlock = some q → q ≠ ob) ∧ Bo vx ob #[.int .i64 0, .int .i64 0, .int .i64 0, .int .i64 0, .int .i64 0, .string ⟨#[]⟩, .slice none 0 0] ∧ t0 ≤ ob ∧ tx.size ≤ 100 ∧ L.length ≤ 5)
    ·intro T vx hHeld hT C N O
     refine zTk 0 ?_
     refine wpAnyH_ready (rs := [1, 2, 5]) (by kernel_rfl) (by simp) ?_
     refine (zC (fun K hK => ?_) (zC (fun K hK => ?_) (zR fun K hK => ?_)))
     ·go_simp
      (try rw [cm vx]); (try go_simp); (have A6 := Below.nw vx (.cells (madeCells #[.int .i64 0, .int .i64 0, .int .i64 0, .int .i64 0, .bool false, .int .i64 0, .int .i64 0, .int .i64 0, .int .i64 0, .int .i64 0, .slice none 0 0, .slice none 0 0, .bool false, .int .i64 0, .slice none 0 0, .int .i64 0] 64) 145)); (have F1 : NdF (vx.alloc (.cells (madeCells #[.int .i64 0, .int .i64 0, .int .i64 0, .int .i64 0, .bool false, .int .i64 0, .int .i64 0, .int .i64 0, .int .i64 0, .int .i64 0, .slice none 0 0, .slice none 0 0, .bool false, .int .i64 0, .slice none 0 0, .int .i64 0] 64) 145)) vx.heap.size := NdF.new vx); (replace C := C.below A6); (replace N := N.trans (au A6 (by omega))); (replace O := O.below A6); (try replace F1 := F1.below A6); (try replace F2 := F2.below A6); (try replace QO := QO.below A6); (have hT2 : t0 < (vx.alloc (.cells (madeCells #[.int .i64 0, .int .i64 0, .int .i64 0, .int .i64 0, .bool false, .int .i64 0, .int .i64 0, .int .i64 0, .int .i64 0, .int .i64 0, .slice none 0 0, .slice none 0 0, .bool false, .int .i64 0, .slice none 0 0, .int .i64 0] 64) 145)).heap.size := by simp; omega); (have hnb : t0 ≤ vx.heap.size := hT); (clear A6 hT); (have hT := Nat.le_of_lt hT2); (clear hT2); (generalize vx.alloc (.cells (madeCells #[.int .i64 0, .int .i64 0, .int .i64 0, .int .i64 0, .bool false, .int .i64 0, .int .i64 0, .int .i64 0, .int .i64 0, .int .i64 0, .slice none 0 0, .slice none 0 0, .bool false, .int .i64 0, .slice none 0 0, .int .i64 0] 64) 145) = vx' at *); (generalize vx.heap.size = nb at *); (clear vx); (generalize vx' = vx at *)
      refine hK.out _ _ ?_ (fun hHeld => ?_)
      ·trivial
      clear hK K
      (try simp only [zA])
      refine wpAnyH_ready (rs := [2, 5]) (by kernel_rfl) (by simp) ?_
      refine (zC (fun K hK => ?_) (zR fun K hK => ?_))
      ·go_simp
       (try rw [cl vx]); (try go_simp); (have A6 := Below.nw vx (.cells (madeCells #[.bool false] 4) 4)); (have F2 : LiF (vx.alloc (.cells (madeCells #[.bool false] 4) 4)) vx.heap.size := LiF.new vx); (replace C := C.below A6); (replace N := N.trans (au A6 (by omega))); (replace O := O.below A6); (try replace F1 := F1.below A6); (try replace F2 := F2.below A6); (try replace QO := QO.below A6); (have hT2 : t0 < (vx.alloc (.cells (madeCells #[.bool false] 4) 4)).heap.size := by simp; omega); (have hlb : t0 ≤ vx.heap.size := hT); (clear A6 hT); (have hT := Nat.le_of_lt hT2); (clear hT2); (generalize vx.alloc (.cells (madeCells #[.bool false] 4) 4) = vx' at *); (generalize vx.heap.size = lb at *); (clear vx); (generalize vx' = vx at *)
       refine hK.out _ _ ?_ (fun hHeld => ?_)
       ·trivial
       clear hK K
       (try simp only [zA])
       refine zTk 3 ?_
       refine wpAnyH_ready (rs := [4, 5]) (by kernel_rfl) (by simp) ?_
       refine (zC (fun K hK => ?_) (zR fun K hK => ?_))
       ·go_simp
        refine (am B p lb nb vx C ⟨⟨F2.1, by omega, F2.2⟩, F1.1, by omega, F1.2⟩).mono ?_; rintro e vy hop; obtain ⟨k, nd, tt, a, b, tx, P, L, c, rfl, hx, hm, ho, hc, hb, hk, hq⟩ := hop; (have hbb : But p vx vy := hb); (replace O := O.but hbb hp); (try replace QO := QO.but hbb (by omega)); (replace N := N.trans (hbb.belP (by omega))); (have C2 := hc); (clear C); (have C := C2); (clear C2); (have OW := ah ho (show t0 ≤ vx.heap.size by omega)); (have hT2 : t0 ≤ vy.heap.size := Nat.le_trans hT hbb.2.2.2.1); (clear hT ho hc hb hk hq hbb F1 F2); (have hT := hT2); (clear hT2); (try clear QOlt); (clear vx); (generalize vy = vx at *)
        (try go_wp2_with fail)
        refine hK.out _ _ ?_ (fun hHeld => ?_)
        ·trivial
        clear hK K
        (try simp only [zA])
        refine zQ 5 fun K hK => ?_
        go_simp
        (have A6 := Below.nw vx (.cells #[.int .i64 0, .int .i64 0, .int .i64 0, .int .i64 0, .int .i64 0, .string ⟨#[]⟩, .slice none 0 0] 26)); (have QO := Bo.new vx #[.int .i64 0, .int .i64 0, .int .i64 0, .int .i64 0, .int .i64 0, .string ⟨#[]⟩, .slice none 0 0] 26); (have HNE : Hid (∀ q, (Value.slice P L.length c).ownBlock = some q → q ≠ vx.heap.size) := fun q hq => by have := (World.ownsRow.lt OW q hq).2; omega); (replace C := C.below A6); (replace N := N.trans (au A6 (by omega))); (replace O := O.below A6); (try replace F1 := F1.below A6); (try replace F2 := F2.below A6); (try replace QO := QO.below A6); (replace OW := ax OW A6); (have hT2 : t0 < (vx.alloc (.cells #[.int .i64 0, .int .i64 0, .int .i64 0, .int .i64 0, .int .i64 0, .string ⟨#[]⟩, .slice none 0 0] 26)).heap.size := by simp; omega); (have hob : t0 ≤ vx.heap.size := hT); (clear A6 hT); (have hT := Nat.le_of_lt hT2); (clear hT2); (generalize vx.alloc (.cells #[.int .i64 0, .int .i64 0, .int .i64 0, .int .i64 0, .int .i64 0, .string ⟨#[]⟩, .slice none 0 0] 26) = vx' at *); (generalize vx.heap.size = ob at *); (clear vx); (generalize vx' = vx at *)
        refine hK.out _ _ ?_ (fun hHeld => ?_)
        ·trivial
        clear hK K
        (try simp only [zA])
        refine zQ 6 fun K hK => ?_
        go_simp
        (have hst := Bo.store (P := Tryz.prog) (b := 0) [.int .i64 k, .int .i64 nd, .int .i64 tt, .int .i64 a, .int .i64 b, .string tx, .slice P L.length c] 0 0 QO rfl (by simp) (by intro u hu; simp only [List.mem_cons, List.not_mem_nil, or_false] at hu; rcases hu with h | h | h | h | h | h | h <;> (subst h; rfl))); (try rw [hst]); (try go_simp)
        refine hK.out _ _ ?_ (fun hHeld => ?_)
        ·trivial
        clear hK K
        (try simp only [zA])
        refine wpAnyH_done (by kernel_rfl) ?_ _
        exact T nb lb ob k nd tt a b tx P L c vx ⟨O, C, N, OW, HNE.out, QO, hob, hx, hm⟩
       ·go_simp
        (have A6 := Below.nw vx (.cells #[.int .i64 0, .int .i64 0, .int .i64 0, .int .i64 0, .int .i64 0, .string ⟨#[]⟩, .slice none 0 0] 26)); (have QO := Bo.new vx #[.int .i64 0, .int .i64 0, .int .i64 0, .int .i64 0, .int .i64 0, .string ⟨#[]⟩, .slice none 0 0] 26); (replace C := C.below A6); (replace N := N.trans (au A6 (by omega))); (replace O := O.below A6); (try replace F1 := F1.below A6); (try replace F2 := F2.below A6); (try replace QO := QO.below A6); (have hT2 : t0 < (vx.alloc (.cells #[.int .i64 0, .int .i64 0, .int .i64 0, .int .i64 0, .int .i64 0, .string ⟨#[]⟩, .slice none 0 0] 26)).heap.size := by simp; omega); (have hob : t0 ≤ vx.heap.size := hT); (clear A6 hT); (have hT := Nat.le_of_lt hT2); (clear hT2); (generalize vx.alloc (.cells #[.int .i64 0, .int .i64 0, .int .i64 0, .int .i64 0, .int .i64 0, .string ⟨#[]⟩, .slice none 0 0] 26) = vx' at *); (generalize vx.heap.size = ob at *); (clear vx); (generalize vx' = vx at *)
        refine hK.out _ _ ?_ (fun hHeld => ?_)
        ·trivial
        clear hK K
        (try simp only [zA])
        refine zQ 4 fun K hK => ?_
        go_simp
        (have QOlt : Hid (ob < vx.heap.size) := QO.1); refine (am B p lb nb vx C ⟨⟨F2.1, by omega, F2.2⟩, F1.1, by omega, F1.2⟩).mono ?_; rintro e vy hop; obtain ⟨k, nd, tt, a, b, tx, P, L, c, rfl, hx, hm, ho, hc, hb, hk, hq⟩ := hop; (have hbb : But p vx vy := hb); (replace O := O.but hbb hp); (try replace QO := QO.but hbb (by omega)); (replace N := N.trans (hbb.belP (by omega))); (have C2 := hc); (clear C); (have C := C2); (clear C2); (have OW := ah ho (show t0 ≤ vx.heap.size by omega)); (have HNE : Hid (∀ q, (Value.slice P L.length c).ownBlock = some q → q ≠ ob) := fun q hqq => by (have q1 := QOlt.out); rcases hq q hqq with e | e; (· cases e); (· omega)); (have hT2 : t0 ≤ vy.heap.size := Nat.le_trans hT hbb.2.2.2.1); (clear hT ho hc hb hk hq hbb F1 F2); (have hT := hT2); (clear hT2); (try clear QOlt); (clear vx); (generalize vy = vx at *)
        (try go_wp2_with fail)
        refine hK.out _ _ ?_ (fun hHeld => ?_)
        ·trivial
        clear hK K
        (try simp only [zA])
        refine zQ 6 fun K hK => ?_
        go_simp
        (have hst := Bo.store (P := Tryz.prog) (b := 0) [.int .i64 k, .int .i64 nd, .int .i64 tt, .int .i64 a, .int .i64 b, .string tx, .slice P L.length c] 0 0 QO rfl (by simp) (by intro u hu; simp only [List.mem_cons, List.not_mem_nil, or_false] at hu; rcases hu with h | h | h | h | h | h | h <;> (subst h; rfl))); (try rw [hst]); (try go_simp)
        refine hK.out _ _ ?_ (fun hHeld => ?_)
        ·trivial
        clear hK K
        (try simp only [zA])
        refine wpAnyH_done (by kernel_rfl) ?_ _
        exact T nb lb ob k nd tt a b tx P L c vx ⟨O, C, N, OW, HNE.out, QO, hob, hx, hm⟩
      ·go_simp
       (have A6 := Below.nw vx (.cells #[.int .i64 0, .int .i64 0, .int .i64 0, .int .i64 0, .int .i64 0, .string ⟨#[]⟩, .slice none 0 0] 26)); (have QO := Bo.new vx #[.int .i64 0, .int .i64 0, .int .i64 0, .int .i64 0, .int .i64 0, .string ⟨#[]⟩, .slice none 0 0] 26); (replace C := C.below A6); (replace N := N.trans (au A6 (by omega))); (replace O := O.below A6); (try replace F1 := F1.below A6); (try replace F2 := F2.below A6); (try replace QO := QO.below A6); (have hT2 : t0 < (vx.alloc (.cells #[.int .i64 0, .int .i64 0, .int .i64 0, .int .i64 0, .int .i64 0, .string ⟨#[]⟩, .slice none 0 0] 26)).heap.size := by simp; omega); (have hob : t0 ≤ vx.heap.size := hT); (clear A6 hT); (have hT := Nat.le_of_lt hT2); (clear hT2); (generalize vx.alloc (.cells #[.int .i64 0, .int .i64 0, .int .i64 0, .int .i64 0, .int .i64 0, .string ⟨#[]⟩, .slice none 0 0] 26) = vx' at *); (generalize vx.heap.size = ob at *); (clear vx); (generalize vx' = vx at *)
       refine hK.out _ _ ?_ (fun hHeld => ?_)
       ·trivial
       clear hK K
       (try simp only [zA])
       refine zQ 2 fun K hK => ?_
       go_simp
       (try rw [cl vx]); (try go_simp); (have A6 := Below.nw vx (.cells (madeCells #[.bool false] 4) 4)); (have F2 : LiF (vx.alloc (.cells (madeCells #[.bool false] 4) 4)) vx.heap.size := LiF.new vx); (replace C := C.below A6); (replace N := N.trans (au A6 (by omega))); (replace O := O.below A6); (try replace F1 := F1.below A6); (try replace F2 := F2.below A6); (try replace QO := QO.below A6); (have hT2 : t0 < (vx.alloc (.cells (madeCells #[.bool false] 4) 4)).heap.size := by simp; omega); (have hlb : t0 ≤ vx.heap.size := hT); (clear A6 hT); (have hT := Nat.le_of_lt hT2); (clear hT2); (generalize vx.alloc (.cells (madeCells #[.bool false] 4) 4) = vx' at *); (generalize vx.heap.size = lb at *); (clear vx); (generalize vx' = vx at *)
       refine hK.out _ _ ?_ (fun hHeld => ?_)
       ·trivial
       clear hK K
       (try simp only [zA])
       refine zTk 3 ?_
       refine zQ 4 fun K hK => ?_
       go_simp
       (have QOlt : Hid (ob < vx.heap.size) := QO.1); refine (am B p lb nb vx C ⟨⟨F2.1, by omega, F2.2⟩, F1.1, by omega, F1.2⟩).mono ?_; rintro e vy hop; obtain ⟨k, nd, tt, a, b, tx, P, L, c, rfl, hx, hm, ho, hc, hb, hk, hq⟩ := hop; (have hbb : But p vx vy := hb); (replace O := O.but hbb hp); (try replace QO := QO.but hbb (by omega)); (replace N := N.trans (hbb.belP (by omega))); (have C2 := hc); (clear C); (have C := C2); (clear C2); (have OW := ah ho (show t0 ≤ vx.heap.size by omega)); (have HNE : Hid (∀ q, (Value.slice P L.length c).ownBlock = some q → q ≠ ob) := fun q hqq => by (have q1 := QOlt.out); rcases hq q hqq with e | e; (· cases e); (· omega)); (have hT2 : t0 ≤ vy.heap.size := Nat.le_trans hT hbb.2.2.2.1); (clear hT ho hc hb hk hq hbb F1 F2); (have hT := hT2); (clear hT2); (try clear QOlt); (clear vx); (generalize vy = vx at *)
       (try go_wp2_with fail)
       refine hK.out _ _ ?_ (fun hHeld => ?_)
       ·trivial
       clear hK K
       (try simp only [zA])
       refine zQ 6 fun K hK => ?_
       go_simp
       (have hst := Bo.store (P := Tryz.prog) (b := 0) [.int .i64 k, .int .i64 nd, .int .i64 tt, .int .i64 a, .int .i64 b, .string tx, .slice P L.length c] 0 0 QO rfl (by simp) (by intro u hu; simp only [List.mem_cons, List.not_mem_nil, or_false] at hu; rcases hu with h | h | h | h | h | h | h <;> (subst h; rfl))); (try rw [hst]); (try go_simp)
       refine hK.out _ _ ?_ (fun hHeld => ?_)
       ·trivial
       clear hK K
       (try simp only [zA])
       refine wpAnyH_done (by kernel_rfl) ?_ _
       exact T nb lb ob k nd tt a b tx P L c vx ⟨O, C, N, OW, HNE.out, QO, hob, hx, hm⟩
     ·go_simp
      (try rw [cl vx]); (try go_simp); (have A6 := Below.nw vx (.cells (madeCells #[.bool false] 4) 4)); (have F2 : LiF (vx.alloc (.cells (madeCells #[.bool false] 4) 4)) vx.heap.size := LiF.new vx); (replace C := C.below A6); (replace N := N.trans (au A6 (by omega))); (replace O := O.below A6); (try replace F1 := F1.below A6); (try replace F2 := F2.below A6); (try replace QO := QO.below A6); (have hT2 : t0 < (vx.alloc (.cells (madeCells #[.bool false] 4) 4)).heap.size := by simp; omega); (have hlb : t0 ≤ vx.heap.size := hT); (clear A6 hT); (have hT := Nat.le_of_lt hT2); (clear hT2); (generalize vx.alloc (.cells (madeCells #[.bool false] 4) 4) = vx' at *); (generalize vx.heap.size = lb at *); (clear vx); (generalize vx' = vx at *)
      refine hK.out _ _ ?_ (fun hHeld => ?_)
      ·trivial
      clear hK K
      (try simp only [zA])
      refine wpAnyH_ready (rs := [1, 5]) (by kernel_rfl) (by simp) ?_
      refine (zC (fun K hK => ?_) (zR fun K hK => ?_))
      ·go_simp
       (try rw [cm vx]); (try go_simp); (have A6 := Below.nw vx (.cells (madeCells #[.int .i64 0, .int .i64 0, .int .i64 0, .int .i64 0, .bool false, .int .i64 0, .int .i64 0, .int .i64 0, .int .i64 0, .int .i64 0, .slice none 0 0, .slice none 0 0, .bool false, .int .i64 0, .slice none 0 0, .int .i64 0] 64) 145)); (have F1 : NdF (vx.alloc (.cells (madeCells #[.int .i64 0, .int .i64 0, .int .i64 0, .int .i64 0, .bool false, .int .i64 0, .int .i64 0, .int .i64 0, .int .i64 0, .int .i64 0, .slice none 0 0, .slice none 0 0, .bool false, .int .i64 0, .slice none 0 0, .int .i64 0] 64) 145)) vx.heap.size := NdF.new vx); (replace C := C.below A6); (replace N := N.trans (au A6 (by omega))); (replace O := O.below A6); (try replace F1 := F1.below A6); (try replace F2 := F2.below A6); (try replace QO := QO.below A6); (have hT2 : t0 < (vx.alloc (.cells (madeCells #[.int .i64 0, .int .i64 0, .int .i64 0, .int .i64 0, .bool false, .int .i64 0, .int .i64 0, .int .i64 0, .int .i64 0, .int .i64 0, .slice none 0 0, .slice none 0 0, .bool false, .int .i64 0, .slice none 0 0, .int .i64 0] 64) 145)).heap.size := by simp; omega); (have hnb : t0 ≤ vx.heap.size := hT); (clear A6 hT); (have hT := Nat.le_of_lt hT2); (clear hT2); (generalize vx.alloc (.cells (madeCells #[.int .i64 0, .int .i64 0, .int .i64 0, .int .i64 0, .bool false, .int .i64 0, .int .i64 0, .int .i64 0, .int .i64 0, .int .i64 0, .slice none 0 0, .slice none 0 0, .bool false, .int .i64 0, .slice none 0 0, .int .i64 0] 64) 145) = vx' at *); (generalize vx.heap.size = nb at *); (clear vx); (generalize vx' = vx at *)
       refine hK.out _ _ ?_ (fun hHeld => ?_)
       ·trivial
       clear hK K
       (try simp only [zA])
       refine zTk 3 ?_
       refine wpAnyH_ready (rs := [4, 5]) (by kernel_rfl) (by simp) ?_
       refine (zC (fun K hK => ?_) (zR fun K hK => ?_))
       ·go_simp
        refine (am B p lb nb vx C ⟨⟨F2.1, by omega, F2.2⟩, F1.1, by omega, F1.2⟩).mono ?_; rintro e vy hop; obtain ⟨k, nd, tt, a, b, tx, P, L, c, rfl, hx, hm, ho, hc, hb, hk, hq⟩ := hop; (have hbb : But p vx vy := hb); (replace O := O.but hbb hp); (try replace QO := QO.but hbb (by omega)); (replace N := N.trans (hbb.belP (by omega))); (have C2 := hc); (clear C); (have C := C2); (clear C2); (have OW := ah ho (show t0 ≤ vx.heap.size by omega)); (have hT2 : t0 ≤ vy.heap.size := Nat.le_trans hT hbb.2.2.2.1); (clear hT ho hc hb hk hq hbb F1 F2); (have hT := hT2); (clear hT2); (try clear QOlt); (clear vx); (generalize vy = vx at *)
        (try go_wp2_with fail)
        refine hK.out _ _ ?_ (fun hHeld => ?_)
        ·trivial
        clear hK K
        (try simp only [zA])
        refine zQ 5 fun K hK => ?_
        go_simp
        (have A6 := Below.nw vx (.cells #[.int .i64 0, .int .i64 0, .int .i64 0, .int .i64 0, .int .i64 0, .string ⟨#[]⟩, .slice none 0 0] 26)); (have QO := Bo.new vx #[.int .i64 0, .int .i64 0, .int .i64 0, .int .i64 0, .int .i64 0, .string ⟨#[]⟩, .slice none 0 0] 26); (have HNE : Hid (∀ q, (Value.slice P L.length c).ownBlock = some q → q ≠ vx.heap.size) := fun q hq => by have := (World.ownsRow.lt OW q hq).2; omega); (replace C := C.below A6); (replace N := N.trans (au A6 (by omega))); (replace O := O.below A6); (try replace F1 := F1.below A6); (try replace F2 := F2.below A6); (try replace QO := QO.below A6); (replace OW := ax OW A6); (have hT2 : t0 < (vx.alloc (.cells #[.int .i64 0, .int .i64 0, .int .i64 0, .int .i64 0, .int .i64 0, .string ⟨#[]⟩, .slice none 0 0] 26)).heap.size := by simp; omega); (have hob : t0 ≤ vx.heap.size := hT); (clear A6 hT); (have hT := Nat.le_of_lt hT2); (clear hT2); (generalize vx.alloc (.cells #[.int .i64 0, .int .i64 0, .int .i64 0, .int .i64 0, .int .i64 0, .string ⟨#[]⟩, .slice none 0 0] 26) = vx' at *); (generalize vx.heap.size = ob at *); (clear vx); (generalize vx' = vx at *)
        refine hK.out _ _ ?_ (fun hHeld => ?_)
        ·trivial
        clear hK K
        (try simp only [zA])
        refine zQ 6 fun K hK => ?_
        go_simp
        (have hst := Bo.store (P := Tryz.prog) (b := 0) [.int .i64 k, .int .i64 nd, .int .i64 tt, .int .i64 a, .int .i64 b, .string tx, .slice P L.length c] 0 0 QO rfl (by simp) (by intro u hu; simp only [List.mem_cons, List.not_mem_nil, or_false] at hu; rcases hu with h | h | h | h | h | h | h <;> (subst h; rfl))); (try rw [hst]); (try go_simp)
        refine hK.out _ _ ?_ (fun hHeld => ?_)
        ·trivial
        clear hK K
        (try simp only [zA])
        refine wpAnyH_done (by kernel_rfl) ?_ _
        exact T nb lb ob k nd tt a b tx P L c vx ⟨O, C, N, OW, HNE.out, QO, hob, hx, hm⟩
       ·go_simp
        (have A6 := Below.nw vx (.cells #[.int .i64 0, .int .i64 0, .int .i64 0, .int .i64 0, .int .i64 0, .string ⟨#[]⟩, .slice none 0 0] 26)); (have QO := Bo.new vx #[.int .i64 0, .int .i64 0, .int .i64 0, .int .i64 0, .int .i64 0, .string ⟨#[]⟩, .slice none 0 0] 26); (replace C := C.below A6); (replace N := N.trans (au A6 (by omega))); (replace O := O.below A6); (try replace F1 := F1.below A6); (try replace F2 := F2.below A6); (try replace QO := QO.below A6); (have hT2 : t0 < (vx.alloc (.cells #[.int .i64 0, .int .i64 0, .int .i64 0, .int .i64 0, .int .i64 0, .string ⟨#[]⟩, .slice none 0 0] 26)).heap.size := by simp; omega); (have hob : t0 ≤ vx.heap.size := hT); (clear A6 hT); (have hT := Nat.le_of_lt hT2); (clear hT2); (generalize vx.alloc (.cells #[.int .i64 0, .int .i64 0, .int .i64 0, .int .i64 0, .int .i64 0, .string ⟨#[]⟩, .slice none 0 0] 26) = vx' at *); (generalize vx.heap.size = ob at *); (clear vx); (generalize vx' = vx at *)
        refine hK.out _ _ ?_ (fun hHeld => ?_)
        ·trivial
        clear hK K
        (try simp only [zA])
        refine zQ 4 fun K hK => ?_
        go_simp
        (have QOlt : Hid (ob < vx.heap.size) := QO.1); refine (am B p lb nb vx C ⟨⟨F2.1, by omega, F2.2⟩, F1.1, by omega, F1.2⟩).mono ?_; rintro e vy hop; obtain ⟨k, nd, tt, a, b, tx, P, L, c, rfl, hx, hm, ho, hc, hb, hk, hq⟩ := hop; (have hbb : But p vx vy := hb); (replace O := O.but hbb hp); (try replace QO := QO.but hbb (by omega)); (replace N := N.trans (hbb.belP (by omega))); (have C2 := hc); (clear C); (have C := C2); (clear C2); (have OW := ah ho (show t0 ≤ vx.heap.size by omega)); (have HNE : Hid (∀ q, (Value.slice P L.length c).ownBlock = some q → q ≠ ob) := fun q hqq => by (have q1 := QOlt.out); rcases hq q hqq with e | e; (· cases e); (· omega)); (have hT2 : t0 ≤ vy.heap.size := Nat.le_trans hT hbb.2.2.2.1); (clear hT ho hc hb hk hq hbb F1 F2); (have hT := hT2); (clear hT2); (try clear QOlt); (clear vx); (generalize vy = vx at *)
        (try go_wp2_with fail)
        refine hK.out _ _ ?_ (fun hHeld => ?_)
        ·trivial
        clear hK K
        (try simp only [zA])
        refine zQ 6 fun K hK => ?_
        go_simp
        (have hst := Bo.store (P := Tryz.prog) (b := 0) [.int .i64 k, .int .i64 nd, .int .i64 tt, .int .i64 a, .int .i64 b, .string tx, .slice P L.length c] 0 0 QO rfl (by simp) (by intro u hu; simp only [List.mem_cons, List.not_mem_nil, or_false] at hu; rcases hu with h | h | h | h | h | h | h <;> (subst h; rfl))); (try rw [hst]); (try go_simp)
        refine hK.out _ _ ?_ (fun hHeld => ?_)
        ·trivial
        clear hK K
        (try simp only [zA])
        refine wpAnyH_done (by kernel_rfl) ?_ _
        exact T nb lb ob k nd tt a b tx P L c vx ⟨O, C, N, OW, HNE.out, QO, hob, hx, hm⟩
      ·go_simp
       (have A6 := Below.nw vx (.cells #[.int .i64 0, .int .i64 0, .int .i64 0, .int .i64 0, .int .i64 0, .string ⟨#[]⟩, .slice none 0 0] 26)); (have QO := Bo.new vx #[.int .i64 0, .int .i64 0, .int .i64 0, .int .i64 0, .int .i64 0, .string ⟨#[]⟩, .slice none 0 0] 26); (replace C := C.below A6); (replace N := N.trans (au A6 (by omega))); (replace O := O.below A6); (try replace F1 := F1.below A6); (try replace F2 := F2.below A6); (try replace QO := QO.below A6); (have hT2 : t0 < (vx.alloc (.cells #[.int .i64 0, .int .i64 0, .int .i64 0, .int .i64 0, .int .i64 0, .string ⟨#[]⟩, .slice none 0 0] 26)).heap.size := by simp; omega); (have hob : t0 ≤ vx.heap.size := hT); (clear A6 hT); (have hT := Nat.le_of_lt hT2); (clear hT2); (generalize vx.alloc (.cells #[.int .i64 0, .int .i64 0, .int .i64 0, .int .i64 0, .int .i64 0, .string ⟨#[]⟩, .slice none 0 0] 26) = vx' at *); (generalize vx.heap.size = ob at *); (clear vx); (generalize vx' = vx at *)
       refine hK.out _ _ ?_ (fun hHeld => ?_)
       ·trivial
       clear hK K
       (try simp only [zA])
       refine zQ 1 fun K hK => ?_
       go_simp
       (try rw [cm vx]); (try go_simp); (have A6 := Below.nw vx (.cells (madeCells #[.int .i64 0, .int .i64 0, .int .i64 0, .int .i64 0, .bool false, .int .i64 0, .int .i64 0, .int .i64 0, .int .i64 0, .int .i64 0, .slice none 0 0, .slice none 0 0, .bool false, .int .i64 0, .slice none 0 0, .int .i64 0] 64) 145)); (have F1 : NdF (vx.alloc (.cells (madeCells #[.int .i64 0, .int .i64 0, .int .i64 0, .int .i64 0, .bool false, .int .i64 0, .int .i64 0, .int .i64 0, .int .i64 0, .int .i64 0, .slice none 0 0, .slice none 0 0, .bool false, .int .i64 0, .slice none 0 0, .int .i64 0] 64) 145)) vx.heap.size := NdF.new vx); (replace C := C.below A6); (replace N := N.trans (au A6 (by omega))); (replace O := O.below A6); (try replace F1 := F1.below A6); (try replace F2 := F2.below A6); (try replace QO := QO.below A6); (have hT2 : t0 < (vx.alloc (.cells (madeCells #[.int .i64 0, .int .i64 0, .int .i64 0, .int .i64 0, .bool false, .int .i64 0, .int .i64 0, .int .i64 0, .int .i64 0, .int .i64 0, .slice none 0 0, .slice none 0 0, .bool false, .int .i64 0, .slice none 0 0, .int .i64 0] 64) 145)).heap.size := by simp; omega); (have hnb : t0 ≤ vx.heap.size := hT); (clear A6 hT); (have hT := Nat.le_of_lt hT2); (clear hT2); (generalize vx.alloc (.cells (madeCells #[.int .i64 0, .int .i64 0, .int .i64 0, .int .i64 0, .bool false, .int .i64 0, .int .i64 0, .int .i64 0, .int .i64 0, .int .i64 0, .slice none 0 0, .slice none 0 0, .bool false, .int .i64 0, .slice none 0 0, .int .i64 0] 64) 145) = vx' at *); (generalize vx.heap.size = nb at *); (clear vx); (generalize vx' = vx at *)
       refine hK.out _ _ ?_ (fun hHeld => ?_)
       ·trivial
       clear hK K
       (try simp only [zA])
       refine zTk 3 ?_
       refine zQ 4 fun K hK => ?_
       go_simp
       (have QOlt : Hid (ob < vx.heap.size) := QO.1); refine (am B p lb nb vx C ⟨⟨F2.1, by omega, F2.2⟩, F1.1, by omega, F1.2⟩).mono ?_; rintro e vy hop; obtain ⟨k, nd, tt, a, b, tx, P, L, c, rfl, hx, hm, ho, hc, hb, hk, hq⟩ := hop; (have hbb : But p vx vy := hb); (replace O := O.but hbb hp); (try replace QO := QO.but hbb (by omega)); (replace N := N.trans (hbb.belP (by omega))); (have C2 := hc); (clear C); (have C := C2); (clear C2); (have OW := ah ho (show t0 ≤ vx.heap.size by omega)); (have HNE : Hid (∀ q, (Value.slice P L.length c).ownBlock = some q → q ≠ ob) := fun q hqq => by (have q1 := QOlt.out); rcases hq q hqq with e | e; (· cases e); (· omega)); (have hT2 : t0 ≤ vy.heap.size := Nat.le_trans hT hbb.2.2.2.1); (clear hT ho hc hb hk hq hbb F1 F2); (have hT := hT2); (clear hT2); (try clear QOlt); (clear vx); (generalize vy = vx at *)
       (try go_wp2_with fail)
       refine hK.out _ _ ?_ (fun hHeld => ?_)
       ·trivial
       clear hK K
       (try simp only [zA])
       refine zQ 6 fun K hK => ?_
       go_simp
       (have hst := Bo.store (P := Tryz.prog) (b := 0) [.int .i64 k, .int .i64 nd, .int .i64 tt, .int .i64 a, .int .i64 b, .string tx, .slice P L.length c] 0 0 QO rfl (by simp) (by intro u hu; simp only [List.mem_cons, List.not_mem_nil, or_false] at hu; rcases hu with h | h | h | h | h | h | h <;> (subst h; rfl))); (try rw [hst]); (try go_simp)
       refine hK.out _ _ ?_ (fun hHeld => ?_)
       ·trivial
       clear hK K
       (try simp only [zA])
       refine wpAnyH_done (by kernel_rfl) ?_ _
       exact T nb lb ob k nd tt a b tx P L c vx ⟨O, C, N, OW, HNE.out, QO, hob, hx, hm⟩
     ·go_simp
      (have A6 := Below.nw vx (.cells #[.int .i64 0, .int .i64 0, .int .i64 0, .int .i64 0, .int .i64 0, .string ⟨#[]⟩, .slice none 0 0] 26)); (have QO := Bo.new vx #[.int .i64 0, .int .i64 0, .int .i64 0, .int .i64 0, .int .i64 0, .string ⟨#[]⟩, .slice none 0 0] 26); (replace C := C.below A6); (replace N := N.trans (au A6 (by omega))); (replace O := O.below A6); (try replace F1 := F1.below A6); (try replace F2 := F2.below A6); (try replace QO := QO.below A6); (have hT2 : t0 < (vx.alloc (.cells #[.int .i64 0, .int .i64 0, .int .i64 0, .int .i64 0, .int .i64 0, .string ⟨#[]⟩, .slice none 0 0] 26)).heap.size := by simp; omega); (have hob : t0 ≤ vx.heap.size := hT); (clear A6 hT); (have hT := Nat.le_of_lt hT2); (clear hT2); (generalize vx.alloc (.cells #[.int .i64 0, .int .i64 0, .int .i64 0, .int .i64 0, .int .i64 0, .string ⟨#[]⟩, .slice none 0 0] 26) = vx' at *); (generalize vx.heap.size = ob at *); (clear vx); (generalize vx' = vx at *)
      refine hK.out _ _ ?_ (fun hHeld => ?_)
      ·trivial
      clear hK K
      (try simp only [zA])
      refine wpAnyH_ready (rs := [1, 2]) (by kernel_rfl) (by simp) ?_
      refine (zC (fun K hK => ?_) (zR fun K hK => ?_))
      ·go_simp
       (try rw [cm vx]); (try go_simp); (have A6 := Below.nw vx (.cells (madeCells #[.int .i64 0, .int .i64 0, .int .i64 0, .int .i64 0, .bool false, .int .i64 0, .int .i64 0, .int .i64 0, .int .i64 0, .int .i64 0, .slice none 0 0, .slice none 0 0, .bool false, .int .i64 0, .slice none 0 0, .int .i64 0] 64) 145)); (have F1 : NdF (vx.alloc (.cells (madeCells #[.int .i64 0, .int .i64 0, .int .i64 0, .int .i64 0, .bool false, .int .i64 0, .int .i64 0, .int .i64 0, .int .i64 0, .int .i64 0, .slice none 0 0, .slice none 0 0, .bool false, .int .i64 0, .slice none 0 0, .int .i64 0] 64) 145)) vx.heap.size := NdF.new vx); (replace C := C.below A6); (replace N := N.trans (au A6 (by omega))); (replace O := O.below A6); (try replace F1 := F1.below A6); (try replace F2 := F2.below A6); (try replace QO := QO.below A6); (have hT2 : t0 < (vx.alloc (.cells (madeCells #[.int .i64 0, .int .i64 0, .int .i64 0, .int .i64 0, .bool false, .int .i64 0, .int .i64 0, .int .i64 0, .int .i64 0, .int .i64 0, .slice none 0 0, .slice none 0 0, .bool false, .int .i64 0, .slice none 0 0, .int .i64 0] 64) 145)).heap.size := by simp; omega); (have hnb : t0 ≤ vx.heap.size := hT); (clear A6 hT); (have hT := Nat.le_of_lt hT2); (clear hT2); (generalize vx.alloc (.cells (madeCells #[.int .i64 0, .int .i64 0, .int .i64 0, .int .i64 0, .bool false, .int .i64 0, .int .i64 0, .int .i64 0, .int .i64 0, .int .i64 0, .slice none 0 0, .slice none 0 0, .bool false, .int .i64 0, .slice none 0 0, .int .i64 0] 64) 145) = vx' at *); (generalize vx.heap.size = nb at *); (clear vx); (generalize vx' = vx at *)
       refine hK.out _ _ ?_ (fun hHeld => ?_)
       ·trivial
       clear hK K
       (try simp only [zA])
       refine zQ 2 fun K hK => ?_
       go_simp
       (try rw [cl vx]); (try go_simp); (have A6 := Below.nw vx (.cells (madeCells #[.bool false] 4) 4)); (have F2 : LiF (vx.alloc (.cells (madeCells #[.bool false] 4) 4)) vx.heap.size := LiF.new vx); (replace C := C.below A6); (replace N := N.trans (au A6 (by omega))); (replace O := O.below A6); (try replace F1 := F1.below A6); (try replace F2 := F2.below A6); (try replace QO := QO.below A6); (have hT2 : t0 < (vx.alloc (.cells (madeCells #[.bool false] 4) 4)).heap.size := by simp; omega); (have hlb : t0 ≤ vx.heap.size := hT); (clear A6 hT); (have hT := Nat.le_of_lt hT2); (clear hT2); (generalize vx.alloc (.cells (madeCells #[.bool false] 4) 4) = vx' at *); (generalize vx.heap.size = lb at *); (clear vx); (generalize vx' = vx at *)
       refine hK.out _ _ ?_ (fun hHeld => ?_)
       ·trivial
       clear hK K
       (try simp only [zA])
       refine zTk 3 ?_
       refine zQ 4 fun K hK => ?_
       go_simp
       (have QOlt : Hid (ob < vx.heap.size) := QO.1); refine (am B p lb nb vx C ⟨⟨F2.1, by omega, F2.2⟩, F1.1, by omega, F1.2⟩).mono ?_; rintro e vy hop; obtain ⟨k, nd, tt, a, b, tx, P, L, c, rfl, hx, hm, ho, hc, hb, hk, hq⟩ := hop; (have hbb : But p vx vy := hb); (replace O := O.but hbb hp); (try replace QO := QO.but hbb (by omega)); (replace N := N.trans (hbb.belP (by omega))); (have C2 := hc); (clear C); (have C := C2); (clear C2); (have OW := ah ho (show t0 ≤ vx.heap.size by omega)); (have HNE : Hid (∀ q, (Value.slice P L.length c).ownBlock = some q → q ≠ ob) := fun q hqq => by (have q1 := QOlt.out); rcases hq q hqq with e | e; (· cases e); (· omega)); (have hT2 : t0 ≤ vy.heap.size := Nat.le_trans hT hbb.2.2.2.1); (clear hT ho hc hb hk hq hbb F1 F2); (have hT := hT2); (clear hT2); (try clear QOlt); (clear vx); (generalize vy = vx at *)
       (try go_wp2_with fail)
       refine hK.out _ _ ?_ (fun hHeld => ?_)
       ·trivial
       clear hK K
       (try simp only [zA])
       refine zQ 6 fun K hK => ?_
       go_simp
       (have hst := Bo.store (P := Tryz.prog) (b := 0) [.int .i64 k, .int .i64 nd, .int .i64 tt, .int .i64 a, .int .i64 b, .string tx, .slice P L.length c] 0 0 QO rfl (by simp) (by intro u hu; simp only [List.mem_cons, List.not_mem_nil, or_false] at hu; rcases hu with h | h | h | h | h | h | h <;> (subst h; rfl))); (try rw [hst]); (try go_simp)
       refine hK.out _ _ ?_ (fun hHeld => ?_)
       ·trivial
       clear hK K
       (try simp only [zA])
       refine wpAnyH_done (by kernel_rfl) ?_ _
       exact T nb lb ob k nd tt a b tx P L c vx ⟨O, C, N, OW, HNE.out, QO, hob, hx, hm⟩
      ·go_simp
       (try rw [cl vx]); (try go_simp); (have A6 := Below.nw vx (.cells (madeCells #[.bool false] 4) 4)); (have F2 : LiF (vx.alloc (.cells (madeCells #[.bool false] 4) 4)) vx.heap.size := LiF.new vx); (replace C := C.below A6); (replace N := N.trans (au A6 (by omega))); (replace O := O.below A6); (try replace F1 := F1.below A6); (try replace F2 := F2.below A6); (try replace QO := QO.below A6); (have hT2 : t0 < (vx.alloc (.cells (madeCells #[.bool false] 4) 4)).heap.size := by simp; omega); (have hlb : t0 ≤ vx.heap.size := hT); (clear A6 hT); (have hT := Nat.le_of_lt hT2); (clear hT2); (generalize vx.alloc (.cells (madeCells #[.bool false] 4) 4) = vx' at *); (generalize vx.heap.size = lb at *); (clear vx); (generalize vx' = vx at *)
       refine hK.out _ _ ?_ (fun hHeld => ?_)
       ·trivial
       clear hK K
       (try simp only [zA])
       refine zQ 1 fun K hK => ?_
       go_simp
       (try rw [cm vx]); (try go_simp); (have A6 := Below.nw vx (.cells (madeCells #[.int .i64 0, .int .i64 0, .int .i64 0, .int .i64 0, .bool false, .int .i64 0, .int .i64 0, .int .i64 0, .int .i64 0, .int .i64 0, .slice none 0 0, .slice none 0 0, .bool false, .int .i64 0, .slice none 0 0, .int .i64 0] 64) 145)); (have F1 : NdF (vx.alloc (.cells (madeCells #[.int .i64 0, .int .i64 0, .int .i64 0, .int .i64 0, .bool false, .int .i64 0, .int .i64 0, .int .i64 0, .int .i64 0, .int .i64 0, .slice none 0 0, .slice none 0 0, .bool false, .int .i64 0, .slice none 0 0, .int .i64 0] 64) 145)) vx.heap.size := NdF.new vx); (replace C := C.below A6); (replace N := N.trans (au A6 (by omega))); (replace O := O.below A6); (try replace F1 := F1.below A6); (try replace F2 := F2.below A6); (try replace QO := QO.below A6); (have hT2 : t0 < (vx.alloc (.cells (madeCells #[.int .i64 0, .int .i64 0, .int .i64 0, .int .i64 0, .bool false, .int .i64 0, .int .i64 0, .int .i64 0, .int .i64 0, .int .i64 0, .slice none 0 0, .slice none 0 0, .bool false, .int .i64 0, .slice none 0 0, .int .i64 0] 64) 145)).heap.size := by simp; omega); (have hnb : t0 ≤ vx.heap.size := hT); (clear A6 hT); (have hT := Nat.le_of_lt hT2); (clear hT2); (generalize vx.alloc (.cells (madeCells #[.int .i64 0, .int .i64 0, .int .i64 0, .int .i64 0, .bool false, .int .i64 0, .int .i64 0, .int .i64 0, .int .i64 0, .int .i64 0, .slice none 0 0, .slice none 0 0, .bool false, .int .i64 0, .slice none 0 0, .int .i64 0] 64) 145) = vx' at *); (generalize vx.heap.size = nb at *); (clear vx); (generalize vx' = vx at *)
       refine hK.out _ _ ?_ (fun hHeld => ?_)
       ·trivial
       clear hK K
       (try simp only [zA])
       refine zTk 3 ?_
       refine zQ 4 fun K hK => ?_
       go_simp
       (have QOlt : Hid (ob < vx.heap.size) := QO.1); refine (am B p lb nb vx C ⟨⟨F2.1, by omega, F2.2⟩, F1.1, by omega, F1.2⟩).mono ?_; rintro e vy hop; obtain ⟨k, nd, tt, a, b, tx, P, L, c, rfl, hx, hm, ho, hc, hb, hk, hq⟩ := hop; (have hbb : But p vx vy := hb); (replace O := O.but hbb hp); (try replace QO := QO.but hbb (by omega)); (replace N := N.trans (hbb.belP (by omega))); (have C2 := hc); (clear C); (have C := C2); (clear C2); (have OW := ah ho (show t0 ≤ vx.heap.size by omega)); (have HNE : Hid (∀ q, (Value.slice P L.length c).ownBlock = some q → q ≠ ob) := fun q hqq => by (have q1 := QOlt.out); rcases hq q hqq with e | e; (· cases e); (· omega)); (have hT2 : t0 ≤ vy.heap.size := Nat.le_trans hT hbb.2.2.2.1); (clear hT ho hc hb hk hq hbb F1 F2); (have hT := hT2); (clear hT2); (try clear QOlt); (clear vx); (generalize vy = vx at *)
       (try go_wp2_with fail)
       refine hK.out _ _ ?_ (fun hHeld => ?_)
       ·trivial
       clear hK K
       (try simp only [zA])
       refine zQ 6 fun K hK => ?_
       go_simp
       (have hst := Bo.store (P := Tryz.prog) (b := 0) [.int .i64 k, .int .i64 nd, .int .i64 tt, .int .i64 a, .int .i64 b, .string tx, .slice P L.length c] 0 0 QO rfl (by simp) (by intro u hu; simp only [List.mem_cons, List.not_mem_nil, or_false] at hu; rcases hu with h | h | h | h | h | h | h <;> (subst h; rfl))); (try rw [hst]); (try go_simp)
       refine hK.out _ _ ?_ (fun hHeld => ?_)
       ·trivial
       clear hK K
       (try simp only [zA])
       refine wpAnyH_done (by kernel_rfl) ?_ _
       exact T nb lb ob k nd tt a b tx P L c vx ⟨O, C, N, OW, HNE.out, QO, hob, hx, hm⟩
    ·intro nb lb ob k nd tt a b tx P L c vx hF
     obtain ⟨O, C, N, OW, hne, QO, hob, hx, hm⟩ := hF
     have HNE : Hid (∀ q, (Value.slice P L.length c).ownBlock = some q → q ≠ ob) := hne
     clear hne
     have hT : t0 ≤ vx.heap.size := by have := QO.1; omega
     have hst := Bo.store (P := Tryz.prog) (b := 0) [.int .i64 k, .int .i64 nd, .int .i64 tt, .int .i64 a, .int .i64 b, .string tx, .slice P L.length c] 0 0 QO rfl (by simp) (by intro u hu; simp only [List.mem_cons, List.not_mem_nil, or_false] at hu; rcases hu with h | h | h | h | h | h | h <;> (subst h; rfl))
     clear hst
     have hbo : But ob vx (ac vx ob 0 [.int .i64 k, .int .i64 nd, .int .i64 tt, .int .i64 a, .int .i64 b, .string tx, .slice P L.length c]) := ak [.int .i64 k, .int .i64 nd, .int .i64 tt, .int .i64 a, .int .i64 b, .string tx, .slice P L.length c] vx vx 0 (But.refl ob vx)
     have Q1 : Bo (ac vx ob 0 [.int .i64 k, .int .i64 nd, .int .i64 tt, .int .i64 a, .int .i64 b, .string tx, .slice P L.length c]) ob #[.int .i64 k, .int .i64 nd, .int .i64 tt, .int .i64 a, .int .i64 b, .string tx, .slice P L.length c] := QO.putW (U := #[.int .i64 k, .int .i64 nd, .int .i64 tt, .int .i64 a, .int .i64 b, .string tx, .slice P L.length c]) rfl
     have hoT : ob < vx.heap.size := QO.1
     replace O := O.kp hbo.2.2.2.1 (fun g _ ql => hbo.2.2.2.2 g (by omega) (by omega))
     replace OW := ay OW hbo HNE.out
     replace C := aj [.int .i64 k, .int .i64 nd, .int .i64 tt, .int .i64 a, .int .i64 b, .string tx, .slice P L.length c] (show ob ≠ p by omega) (show B ≤ ob by omega) 0 C
     replace N := N.trans (ao (v := vx) [.int .i64 k, .int .i64 nd, .int .i64 tt, .int .i64 a, .int .i64 b, .string tx, .slice P L.length c] (show w.heap.size ≤ ob by omega) 0)
     have hT1 : ob < (ac vx ob 0 [.int .i64 k, .int .i64 nd, .int .i64 tt, .int .i64 a, .int .i64 b, .string tx, .slice P L.length c]).heap.size := by rw [aR]; exact hoT
     clear QO hbo hT hoT HNE
     have QO := Q1
     clear Q1
     generalize ac vx ob 0 [.int .i64 k, .int .i64 nd, .int .i64 tt, .int .i64 a, .int .i64 b, .string tx, .slice P L.length c] = v1 at *
     go_wp2_with fail
     refine (aB B p 60 v1 C).mono ?_
     rintro e v2 ⟨bo, rfl, cc, bb⟩
     replace O := O.but bb hp
     replace QO := QO.but bb (by omega)
     replace OW := br OW bb (by omega)
     replace N := N.trans (bb.belP (by omega))
     have hT2 : ob < v2.heap.size := Nat.lt_of_lt_of_le hT1 bb.2.2.2.1
     clear C bb hT1 v1
     have C := cc
     clear cc
     have hz : ∃ z, (r : Int).tmod 4 = z := ⟨_, rfl⟩
     obtain ⟨z, hz⟩ := hz
     cases bo
     ·by_cases h200 : (200 : Int) ≤ (n : Int)
      ·skip
       have hst := Bo.store (P := Tryz.prog) (b := 0) [.int .i64 6, .int .i64 z, .int .i64 0, .int .i64 0, .int .i64 0, .string ⟨#[]⟩, .slice none 0 0] 0 0 QO rfl (by simp) (by intro u hu; simp only [List.mem_cons, List.not_mem_nil, or_false] at hu; rcases hu with h | h | h | h | h | h | h <;> (subst h; rfl))
       have hbo : But ob v2 (ac v2 ob 0 [.int .i64 6, .int .i64 z, .int .i64 0, .int .i64 0, .int .i64 0, .string ⟨#[]⟩, .slice none 0 0]) := ak [.int .i64 6, .int .i64 z, .int .i64 0, .int .i64 0, .int .i64 0, .string ⟨#[]⟩, .slice none 0 0] v2 v2 0 (But.refl ob v2)
       have Q1 : Bo (ac v2 ob 0 [.int .i64 6, .int .i64 z, .int .i64 0, .int .i64 0, .int .i64 0, .string ⟨#[]⟩, .slice none 0 0]) ob #[.int .i64 6, .int .i64 z, .int .i64 0, .int .i64 0, .int .i64 0, .string ⟨#[]⟩, .slice none 0 0] := QO.putW (U := #[.int .i64 6, .int .i64 z, .int .i64 0, .int .i64 0, .int .i64 0, .string ⟨#[]⟩, .slice none 0 0]) rfl
       replace O := O.kp hbo.2.2.2.1 (fun g _ ql => hbo.2.2.2.2 g (by omega) (by omega))
       replace C := aj [.int .i64 6, .int .i64 z, .int .i64 0, .int .i64 0, .int .i64 0, .string ⟨#[]⟩, .slice none 0 0] (show ob ≠ p by omega) (show B ≤ ob by omega) 0 C
       replace N := N.trans (ao (v := v2) [.int .i64 6, .int .i64 z, .int .i64 0, .int .i64 0, .int .i64 0, .string ⟨#[]⟩, .slice none 0 0] (show w.heap.size ≤ ob by omega) 0)
       clear hbo QO OW hx hm
       have QO := Q1
       clear Q1
       go_upto_region 11 with (first | rw [hz] | rw [hst])
       clear hst
       generalize ac v2 ob 0 [.int .i64 6, .int .i64 z, .int .i64 0, .int .i64 0, .int .i64 0, .string ⟨#[]⟩, .slice none 0 0] = v3 at *
       have hL := QO.load (P := Tryz.prog) (n := 7) rfl
       have LS : LsZ v3 t0 v3.heap.size none 0 (⟨6, z, 0, 0, 0, ⟨#[]⟩, 0, fun _ => 0⟩ : OpD).n (⟨6, z, 0, 0, 0, ⟨#[]⟩, 0, fun _ => 0⟩ : OpD).f := .inl ⟨rfl, rfl, rfl⟩
       go_wp2_with (first | rw [hL] | (at_builtin; refine cF rfl _ _ rfl w.heap.size t0 v3.heap.size XM r u6 (by rfl) _ ⟨6, z, 0, 0, 0, ⟨#[]⟩, 0, fun _ => 0⟩ none 0 rfl O (Nat.zero_le _) (Nat.zero_le _) LS (Nat.le_refl _) rfl (by omega) hbt ?_; intro v8 w8 O8 hb8))
       have C8 := C.belowB hb8 hp
       have N8 := N.trans (au hb8 (Nat.le_refl _))
       clear O C N hb8 LS QO hL
       go_wp2_with fail
       go_roundw
       case rel => exact ⟨r + 1, _, by omega, by go_num, O8, C8, N8⟩
       case measure => simp [intOf]; omega
      ·go_upto_region 11 with fail
       clear hz z
       have hL := QO.load (P := Tryz.prog) (n := 7) rfl
       have LS : LsZ v2 t0 v2.heap.size P c (⟨k, nd, tt, a, b, tx, L.length, gI L⟩ : OpD).n (⟨k, nd, tt, a, b, tx, L.length, gI L⟩ : OpD).f := f8 OW (fun q hq => (World.ownsRow.lt OW q hq).2)
       go_wp2_with (first | rw [hL] | (at_builtin; refine cF rfl _ _ rfl w.heap.size t0 v2.heap.size XM r u6 (by rfl) _ ⟨k, nd, tt, a, b, tx, L.length, gI L⟩ P c rfl O (Nat.le_trans hx (by decide)) (Nat.le_trans hm (by decide)) LS (Nat.le_refl _) rfl (by omega) hbt ?_; intro v8 w8 O8 hb8))
       have C8 := C.belowB hb8 hp
       have N8 := N.trans (au hb8 (Nat.le_refl _))
       clear O C N hb8 LS QO hL
       go_wp2_with fail
       go_roundw
       case rel => exact ⟨r + 1, _, by omega, by go_num, O8, C8, N8⟩
       case measure => simp [intOf]; omega
     ·skip
      have hst := Bo.store (P := Tryz.prog) (b := 0) [.int .i64 6, .int .i64 z, .int .i64 0, .int .i64 0, .int .i64 0, .string ⟨#[]⟩, .slice none 0 0] 0 0 QO rfl (by simp) (by intro u hu; simp only [List.mem_cons, List.not_mem_nil, or_false] at hu; rcases hu with h | h | h | h | h | h | h <;> (subst h; rfl))
      have hbo : But ob v2 (ac v2 ob 0 [.int .i64 6, .int .i64 z, .int .i64 0, .int .i64 0, .int .i64 0, .string ⟨#[]⟩, .slice none 0 0]) := ak [.int .i64 6, .int .i64 z, .int .i64 0, .int .i64 0, .int .i64 0, .string ⟨#[]⟩, .slice none 0 0] v2 v2 0 (But.refl ob v2)
      have Q1 : Bo (ac v2 ob 0 [.int .i64 6, .int .i64 z, .int .i64 0, .int .i64 0, .int .i64 0, .string ⟨#[]⟩, .slice none 0 0]) ob #[.int .i64 6, .int .i64 z, .int .i64 0, .int .i64 0, .int .i64 0, .string ⟨#[]⟩, .slice none 0 0] := QO.putW (U := #[.int .i64 6, .int .i64 z, .int .i64 0, .int .i64 0, .int .i64 0, .string ⟨#[]⟩, .slice none 0 0]) rfl
      replace O := O.kp hbo.2.2.2.1 (fun g _ ql => hbo.2.2.2.2 g (by omega) (by omega))
      replace C := aj [.int .i64 6, .int .i64 z, .int .i64 0, .int .i64 0, .int .i64 0, .string ⟨#[]⟩, .slice none 0 0] (show ob ≠ p by omega) (show B ≤ ob by omega) 0 C
      replace N := N.trans (ao (v := v2) [.int .i64 6, .int .i64 z, .int .i64 0, .int .i64 0, .int .i64 0, .string ⟨#[]⟩, .slice none 0 0] (show w.heap.size ≤ ob by omega) 0)
      clear hbo QO OW hx hm
      have QO := Q1
      clear Q1
      go_upto_region 11 with (first | rw [hz] | rw [hst])
      clear hst
      generalize ac v2 ob 0 [.int .i64 6, .int .i64 z, .int .i64 0, .int .i64 0, .int .i64 0, .string ⟨#[]⟩, .slice none 0 0] = v3 at *
      have hL := QO.load (P := Tryz.prog) (n := 7) rfl
      have LS : LsZ v3 t0 v3.heap.size none 0 (⟨6, z, 0, 0, 0, ⟨#[]⟩, 0, fun _ => 0⟩ : OpD).n (⟨6, z, 0, 0, 0, ⟨#[]⟩, 0, fun _ => 0⟩ : OpD).f := .inl ⟨rfl, rfl, rfl⟩
      go_wp2_with (first | rw [hL] | (at_builtin; refine cF rfl _ _ rfl w.heap.size t0 v3.heap.size XM r u6 (by rfl) _ ⟨6, z, 0, 0, 0, ⟨#[]⟩, 0, fun _ => 0⟩ none 0 rfl O (Nat.zero_le _) (Nat.zero_le _) LS (Nat.le_refl _) rfl (by omega) hbt ?_; intro v8 w8 O8 hb8))
      have C8 := C.belowB hb8 hp
      have N8 := N.trans (au hb8 (Nat.le_refl _))
      clear O C N hb8 LS QO hL
      go_wp2_with fail
      go_roundw
      case rel => exact ⟨r + 1, _, by omega, by go_num, O8, C8, N8⟩
      case measure => simp [intOf]; omega
   ·have hli : ¬ (r : Int) < (n : Int) := by omega
    go_wp2_with fail
    go_ret
    exact ⟨_, rfl, r, by omega, ⟨XM, O⟩, C, N⟩

end Go.Proofs.YtddjiamollfplaaGreatDoor
