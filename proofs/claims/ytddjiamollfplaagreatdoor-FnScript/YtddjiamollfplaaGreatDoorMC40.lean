/- An op drawn and spoilt. -/
import Derived.Test.YtddjiamollfplaaGreatDoorMC0
import Derived.Test.YtddjiamollfplaaGreatDoorMC39
namespace Go.Proofs.YtddjiamollfplaaGreatDoor
open Go.RowKit
set_option linter.unusedVariables false

def NdF (w : World) (nb : Nat) : Prop := nb < w.heap.size ∧ ∀ j, j < 4 → w.cell? ⟨nb, j * 16 + 10, none⟩ = some (.slice none 0 0)
def LiF (w : World) (lb : Nat) : Prop := lb < w.heap.size ∧ ∀ j, j < 4 → w.cell? ⟨lb, j, none⟩ = some (.bool false)
theorem NdF.below {w w' : World} {nb : Nat} (h : NdF w nb) (hb : Below w.heap.size w w') : NdF w' nb := ⟨Nat.lt_of_lt_of_le h.1 hb.size, fun j hj => by rw [hb.cell (p := ⟨nb, j * 16 + 10, none⟩) h.1]; exact h.2 j hj⟩
theorem LiF.below {w w' : World} {lb : Nat} (h : LiF w lb) (hb : Below w.heap.size w w') : LiF w' lb := ⟨Nat.lt_of_lt_of_le h.1 hb.size, fun j hj => by rw [hb.cell (p := ⟨lb, j, none⟩) h.1]; exact h.2 j hj⟩
theorem four (j : Nat) (h : j < 4) : j = 0 ∨ j = 1 ∨ j = 2 ∨ j = 3 := by omega
theorem NdF.new (w : World) : NdF (w.alloc (.cells (madeCells #[.int .i64 0, .int .i64 0, .int .i64 0, .int .i64 0, .bool false, .int .i64 0, .int .i64 0, .int .i64 0, .int .i64 0, .int .i64 0, .slice none 0 0, .slice none 0 0, .bool false, .int .i64 0, .slice none 0 0, .int .i64 0] 64) 145)) w.heap.size := ⟨by simp, fun j hj => (Bo.new w (madeCells #[.int .i64 0, .int .i64 0, .int .i64 0, .int .i64 0, .bool false, .int .i64 0, .int .i64 0, .int .i64 0, .int .i64 0, .int .i64 0, .slice none 0 0, .slice none 0 0, .bool false, .int .i64 0, .slice none 0 0, .int .i64 0] 64) 145).cell (by rcases four j hj with rfl | rfl | rfl | rfl <;> simp [madeCells])⟩
theorem LiF.new (w : World) : LiF (w.alloc (.cells (madeCells #[.bool false] 4) 4)) w.heap.size := ⟨by simp, fun j hj => (Bo.new w (madeCells #[.bool false] 4) 4).cell (by rcases four j hj with rfl | rfl | rfl | rfl <;> simp [madeCells])⟩
theorem kS : (Tryz.prog.info? 145).map (fun i => (i.zero, i.size, i.bytes)) = some (some (.agg #[.int .i64 0, .int .i64 0, .int .i64 0, .int .i64 0, .bool false, .int .i64 0, .int .i64 0, .int .i64 0, .int .i64 0, .int .i64 0, .slice none 0 0, .slice none 0 0, .bool false, .int .i64 0, .slice none 0 0, .int .i64 0]), 16, 176) := by kernel_rfl
theorem kR : (Tryz.prog.info? 4).map (fun i => (i.zero, i.size, i.bytes)) = some (some (.bool false), 1, 1) := by kernel_rfl
theorem cm (w : World) : (Instr.makeSlice 89 (.int .i64 4) (.int .i64 4)).run Tryz.prog w = .ok (.slice (some ⟨w.heap.size, 0, none⟩) 4 4) (w.alloc (.cells (madeCells #[.int .i64 0, .int .i64 0, .int .i64 0, .int .i64 0, .bool false, .int .i64 0, .int .i64 0, .int .i64 0, .int .i64 0, .int .i64 0, .slice none 0 0, .slice none 0 0, .bool false, .int .i64 0, .slice none 0 0, .int .i64 0] 64) 145)) := by
 obtain ⟨i, hi, hz⟩ := Option.map_eq_some_iff.1 kS
 simp only [Prod.mk.injEq] at hz
 obtain ⟨h1, h2, h3⟩ := hz
 have hr := run_make (P := Tryz.prog) w 89 145 i _ Tryz.underlying89 hi h1 .i64 .i64 4 4 (by omega) (Int.le_refl _) (by rw [h3]; omega) (by omega)
 rw [h2] at hr
 exact hr
theorem cl (w : World) : (Instr.makeSlice 90 (.int .i64 4) (.int .i64 4)).run Tryz.prog w = .ok (.slice (some ⟨w.heap.size, 0, none⟩) 4 4) (w.alloc (.cells (madeCells #[.bool false] 4) 4)) := by
 obtain ⟨i, hi, hz⟩ := Option.map_eq_some_iff.1 kR
 simp only [Prod.mk.injEq] at hz
 obtain ⟨h1, h2, h3⟩ := hz
 have hr := run_make (P := Tryz.prog) w 90 4 i _ Tryz.underlying90 hi h1 .i64 .i64 4 4 (by omega) (Int.le_refl _) (by rw [h3]; omega) (by omega)
 rw [h2] at hr
 exact hr
theorem aj {B p k : Nat} : ∀ (us : List Value) {u : World}, k ≠ p → B ≤ k → ∀ (o : Nat), aq u B p → aq (ac u k o us) B p
 | [], _, _, _, _, h => h
 | x :: us, u, h1, h2, o, h => aj us h1 h2 (o + 1) (h.setOther h1 h2 _ _)
theorem ao {base p k : Nat} {v : World} (us : List Value) (hk : base ≤ k) (o : Nat) : aW base p v (ac v k o us) := by
 have hb : But k v (ac v k o us) := ak us v v o (But.refl k v)
 exact ⟨hb.1, hb.2.1, hb.2.2.1, hb.2.2.2.1, fun q hq _ => by
  by_cases h : q < v.heap.size
  ·exact hb.2.2.2.2 q h (by omega)
  ·have hs := aR k us v o
   rw [Array.getElem?_eq_none (by omega), Array.getElem?_eq_none (by omega)]⟩
theorem Bo.kp {w w' : World} {k p : Nat} {A : Array Value} {ow : Option Nat} (h : Bo w k A) (hk : KpS ow p w w') (hs : w.heap.size ≤ w'.heap.size) (hp : k ≠ p) (ho : some k ≠ ow) : Bo w' k A := by
 have e := hk k h.1 hp ho
 exact ⟨Nat.lt_of_lt_of_le h.1 hs, fun i u hi => (World.cell?_of_block (w := w) (a := ⟨k, i, none⟩) e).trans (h.2.1 i u hi), fun i hi => by
  have e2 : w'.frozen? ⟨k, i, none⟩ = w.frozen? ⟨k, i, none⟩ := by simp only [World.frozen?]; rw [e]
  rw [e2]; exact h.2.2 i hi⟩
def cN (B p : Nat) (w : World) (e : Ending) (w' : World) : Prop := ∃ (k nd tt a b : Int) (tx : ByteArray) (P : Option Addr) (L : List Int) (c : Nat), e = .returned (.agg #[.int .i64 k, .int .i64 nd, .int .i64 tt, .int .i64 a, .int .i64 b, .string tx, .slice P L.length c]) ∧ tx.size ≤ 100 ∧ L.length ≤ 8 ∧ w'.ownsRow w.heap.size 3 1 (.slice P L.length c) L.length (aG L) ∧ aq w' B p ∧ aW w.heap.size p w w'
attribute [-go_sem] loadCells storeCells in
set_option maxRecDepth 100000 in
set_option maxHeartbeats 16000000 in
theorem fd (B p : Nat) (w : World) (hcur : aq w B p) :
 Calls Tryz.prog 19 #[.pointer (some ⟨p, 0, none⟩)] w (cN B p w) := by
 have hpB := hcur.lt
 have hp : p < w.heap.size := hpB.1
 have hB : B ≤ p := hpB.2
 have A1 := Below.nw w (.cells #[.int .i64 0, .int .i64 0, .int .i64 0, .int .i64 0, .int .i64 0, .string ⟨#[]⟩, .slice none 0 0] 26)
 have R := Bo.new w #[.int .i64 0, .int .i64 0, .int .i64 0, .int .i64 0, .int .i64 0, .string ⟨#[]⟩, .slice none 0 0] 26
 have C := hcur.below A1
 have N : aW w.heap.size p w (w.alloc (.cells #[.int .i64 0, .int .i64 0, .int .i64 0, .int .i64 0, .int .i64 0, .string ⟨#[]⟩, .slice none 0 0] 26)) := au A1 (Nat.le_refl _)
 have hsz1 : w.heap.size < (w.alloc (.cells #[.int .i64 0, .int .i64 0, .int .i64 0, .int .i64 0, .int .i64 0, .string ⟨#[]⟩, .slice none 0 0] 26)).heap.size := by simp
 clear A1 hcur hpB
 go_enter Tryz.func19, Tryz.ntmps19
 go_upto_region 1 with fail
 generalize w.alloc (.cells #[.int .i64 0, .int .i64 0, .int .i64 0, .int .i64 0, .int .i64 0, .string ⟨#[]⟩, .slice none 0 0] 26) = v1 at *
 refine wp_region_held_drew (S := (fun _ => True)) (by kernel_rfl) ?_ (fun hHeld => ?_)
 ·trivial
 have hsz : w.heap.size < v1.drew.heap.size := hsz1
 replace C := C.drew
 replace R : Bo v1.drew w.heap.size #[.int .i64 0, .int .i64 0, .int .i64 0, .int .i64 0, .int .i64 0, .string ⟨#[]⟩, .slice none 0 0] := R
 replace N : aW w.heap.size p w v1.drew := N
 clear hsz1
 generalize v1.drew = vx at *
 refine zTk 0 ?_
 refine wpAnyH_ready (rs := [1, 2, 5]) (by kernel_rfl) (by simp) ?_
 refine (zC (fun K hK => ?_) (zC (fun K hK => ?_) (zR fun K hK => ?_)))
 ·go_simp
  (try rw [cm vx]); (try go_simp); (have A6 := Below.nw vx (.cells (madeCells #[.int .i64 0, .int .i64 0, .int .i64 0, .int .i64 0, .bool false, .int .i64 0, .int .i64 0, .int .i64 0, .int .i64 0, .int .i64 0, .slice none 0 0, .slice none 0 0, .bool false, .int .i64 0, .slice none 0 0, .int .i64 0] 64) 145)); (have F1 : NdF (vx.alloc (.cells (madeCells #[.int .i64 0, .int .i64 0, .int .i64 0, .int .i64 0, .bool false, .int .i64 0, .int .i64 0, .int .i64 0, .int .i64 0, .int .i64 0, .slice none 0 0, .slice none 0 0, .bool false, .int .i64 0, .slice none 0 0, .int .i64 0] 64) 145)) vx.heap.size := NdF.new vx); (replace C := C.below A6); (replace N := N.trans (au A6 (by omega))); (replace R := R.below A6); (try replace F1 := F1.below A6); (try replace F2 := F2.below A6); (try replace QO := QO.below A6); (have hsz2 : w.heap.size < (vx.alloc (.cells (madeCells #[.int .i64 0, .int .i64 0, .int .i64 0, .int .i64 0, .bool false, .int .i64 0, .int .i64 0, .int .i64 0, .int .i64 0, .int .i64 0, .slice none 0 0, .slice none 0 0, .bool false, .int .i64 0, .slice none 0 0, .int .i64 0] 64) 145)).heap.size := by simp; omega); (have hnb : w.heap.size < vx.heap.size := hsz); (clear A6 hsz); (have hsz := hsz2); (clear hsz2); (generalize vx.alloc (.cells (madeCells #[.int .i64 0, .int .i64 0, .int .i64 0, .int .i64 0, .bool false, .int .i64 0, .int .i64 0, .int .i64 0, .int .i64 0, .int .i64 0, .slice none 0 0, .slice none 0 0, .bool false, .int .i64 0, .slice none 0 0, .int .i64 0] 64) 145) = vx' at *); (generalize vx.heap.size = nb at *); (clear vx); (generalize vx' = vx at *)
  refine hK.out _ _ ?_ (fun hHeld => ?_)
  ·trivial
  clear hK K
  (try simp only [zA])
  refine wpAnyH_ready (rs := [2, 5]) (by kernel_rfl) (by simp) ?_
  refine (zC (fun K hK => ?_) (zR fun K hK => ?_))
  ·go_simp
   (try rw [cl vx]); (try go_simp); (have A6 := Below.nw vx (.cells (madeCells #[.bool false] 4) 4)); (have F2 : LiF (vx.alloc (.cells (madeCells #[.bool false] 4) 4)) vx.heap.size := LiF.new vx); (replace C := C.below A6); (replace N := N.trans (au A6 (by omega))); (replace R := R.below A6); (try replace F1 := F1.below A6); (try replace F2 := F2.below A6); (try replace QO := QO.below A6); (have hsz2 : w.heap.size < (vx.alloc (.cells (madeCells #[.bool false] 4) 4)).heap.size := by simp; omega); (have hlb : w.heap.size < vx.heap.size := hsz); (clear A6 hsz); (have hsz := hsz2); (clear hsz2); (generalize vx.alloc (.cells (madeCells #[.bool false] 4) 4) = vx' at *); (generalize vx.heap.size = lb at *); (clear vx); (generalize vx' = vx at *)
   refine hK.out _ _ ?_ (fun hHeld => ?_)
   ·trivial
   clear hK K
   (try simp only [zA])
   refine zTk 3 ?_
   refine wpAnyH_ready (rs := [4, 5]) (by kernel_rfl) (by simp) ?_
   refine (zC (fun K hK => ?_) (zR fun K hK => ?_))
   ·go_simp
    refine (am B p lb nb vx C ⟨⟨F2.1, by omega, F2.2⟩, F1.1, by omega, F1.2⟩).mono ?_; rintro e vy hop; obtain ⟨k, nd, tt, a, b, tx, P, L, c, rfl, hx, hm, ho, hc, hb, hk, hq⟩ := hop; (have hbb : But p vx vy := hb); (replace R := R.but hbb (by omega)); (try replace QO := QO.but hbb (by omega)); (replace N := N.trans (hbb.belP (by omega))); (have C2 := hc); (clear C); (have C := C2); (clear C2); (have OW := ah ho (show w.heap.size ≤ vx.heap.size by omega)); (have hsz2 : w.heap.size < vy.heap.size := Nat.lt_of_lt_of_le hsz hbb.2.2.2.1); (have HNW : Hid (∀ q, (Value.slice P L.length c).ownBlock = some q → q ≠ w.heap.size) := fun q hqq => by rcases hq q hqq with e | e; (· cases e); (· omega)); (clear hsz ho hc hb hk hq hbb F1 F2); (have hsz := hsz2); (clear hsz2); (try clear QOlt); (clear vx); (generalize vy = vx at *)
    (try go_wp2_with fail)
    refine hK.out _ _ ?_ (fun hHeld => ?_)
    ·trivial
    clear hK K
    (try simp only [zA])
    refine zQ 5 fun K hK => ?_
    go_simp
    (have A6 := Below.nw vx (.cells #[.int .i64 0, .int .i64 0, .int .i64 0, .int .i64 0, .int .i64 0, .string ⟨#[]⟩, .slice none 0 0] 26)); (have QO := Bo.new vx #[.int .i64 0, .int .i64 0, .int .i64 0, .int .i64 0, .int .i64 0, .string ⟨#[]⟩, .slice none 0 0] 26); (have HNE : Hid (∀ q, (Value.slice P L.length c).ownBlock = some q → q ≠ vx.heap.size) := fun q hq => by have := (World.ownsRow.lt OW q hq).2; omega); (replace C := C.below A6); (replace N := N.trans (au A6 (by omega))); (replace R := R.below A6); (try replace F1 := F1.below A6); (try replace F2 := F2.below A6); (try replace QO := QO.below A6); (replace OW := ax OW A6); (have hsz2 : w.heap.size < (vx.alloc (.cells #[.int .i64 0, .int .i64 0, .int .i64 0, .int .i64 0, .int .i64 0, .string ⟨#[]⟩, .slice none 0 0] 26)).heap.size := by simp; omega); (have hob : w.heap.size < vx.heap.size := hsz); (clear A6 hsz); (have hsz := hsz2); (clear hsz2); (generalize vx.alloc (.cells #[.int .i64 0, .int .i64 0, .int .i64 0, .int .i64 0, .int .i64 0, .string ⟨#[]⟩, .slice none 0 0] 26) = vx' at *); (generalize vx.heap.size = ob at *); (clear vx); (generalize vx' = vx at *)
    refine hK.out _ _ ?_ (fun hHeld => ?_)
    ·trivial
    clear hK K
    (try simp only [zA])
    refine zQ 6 fun K hK => ?_
    go_simp
    (have hst := Bo.store (P := Tryz.prog) (b := 0) [.int .i64 k, .int .i64 nd, .int .i64 tt, .int .i64 a, .int .i64 b, .string tx, .slice P L.length c] 0 0 QO rfl (by simp) (by intro u hu; simp only [List.mem_cons, List.not_mem_nil, or_false] at hu; rcases hu with h | h | h | h | h | h | h <;> (subst h; rfl))); (try rw [hst]); (try go_simp)
    refine hK.out _ _ ?_ (fun hHeld => ?_)
    ·trivial
    clear hK K
    (try simp only [zA])
    refine wpAnyH_done (by kernel_rfl) ?_ _
    have hv0 : w.heap.size < (ac vx ob 0 [.int .i64 k, .int .i64 nd, .int .i64 tt, .int .i64 a, .int .i64 b, .string tx, .slice P L.length c]).heap.size := by rw [aR]; exact hsz
    have HNR0 : Hid (∀ q, (Value.slice P L.length c).ownBlock = some q → q ≠ w.heap.size) := HNW.out
    clear hst
    have Q1 : Bo (ac vx ob 0 [.int .i64 k, .int .i64 nd, .int .i64 tt, .int .i64 a, .int .i64 b, .string tx, .slice P L.length c]) ob #[.int .i64 k, .int .i64 nd, .int .i64 tt, .int .i64 a, .int .i64 b, .string tx, .slice P L.length c] := QO.putW (U := #[.int .i64 k, .int .i64 nd, .int .i64 tt, .int .i64 a, .int .i64 b, .string tx, .slice P L.length c]) rfl
    have hbo : But ob vx (ac vx ob 0 [.int .i64 k, .int .i64 nd, .int .i64 tt, .int .i64 a, .int .i64 b, .string tx, .slice P L.length c]) := ak [.int .i64 k, .int .i64 nd, .int .i64 tt, .int .i64 a, .int .i64 b, .string tx, .slice P L.length c] vx vx 0 (But.refl ob vx)
    replace R := R.but hbo (by omega)
    replace OW := ay OW hbo HNE.out
    replace C := aj [.int .i64 k, .int .i64 nd, .int .i64 tt, .int .i64 a, .int .i64 b, .string tx, .slice P L.length c] (show ob ≠ p by omega) (show B ≤ ob by omega) 0 C
    replace N := N.trans (ao (v := vx) [.int .i64 k, .int .i64 nd, .int .i64 tt, .int .i64 a, .int .i64 b, .string tx, .slice P L.length c] (show w.heap.size ≤ ob by omega) 0)
    have HNR : Hid (∀ q, (Value.slice P L.length c).ownBlock = some q → q ≠ w.heap.size) := HNR0.out
    clear QO hbo hsz
    have QO := Q1
    clear Q1
    generalize ac vx ob 0 [.int .i64 k, .int .i64 nd, .int .i64 tt, .int .i64 a, .int .i64 b, .string tx, .slice P L.length c] = v1 at *
    go_wp2_with fail
    refine (aB B p 8 v1 C).mono ?_
    rintro e v2 ⟨bo, rfl, cc, bb⟩
    replace R := R.but bb (by omega)
    replace QO := QO.but bb (by omega)
    replace OW := br OW bb (by omega)
    replace N := N.trans (bb.belP (Nat.le_of_lt hv0))
    have hv2 : w.heap.size < v2.heap.size := Nat.lt_of_lt_of_le hv0 bb.2.2.2.1
    clear C bb hv0
    have C := cc
    clear cc
    cases bo
    ·skip
     have hL := QO.load (P := Tryz.prog) (n := 7) rfl
     have hst := Bo.store (P := Tryz.prog) (b := 0) [.int .i64 k, .int .i64 nd, .int .i64 tt, .int .i64 a, .int .i64 b, .string tx, .slice P L.length c] 0 0 R rfl (by simp) (by intro u hu; simp only [List.mem_cons, List.not_mem_nil, or_false] at hu; rcases hu with h | h | h | h | h | h | h <;> (subst h; rfl))
     have R9 : Bo (ac v2 w.heap.size 0 [.int .i64 k, .int .i64 nd, .int .i64 tt, .int .i64 a, .int .i64 b, .string tx, .slice P L.length c]) w.heap.size #[.int .i64 k, .int .i64 nd, .int .i64 tt, .int .i64 a, .int .i64 b, .string tx, .slice P L.length c] := R.putW (U := #[.int .i64 k, .int .i64 nd, .int .i64 tt, .int .i64 a, .int .i64 b, .string tx, .slice P L.length c]) rfl
     have OW9 := ay OW (ak [.int .i64 k, .int .i64 nd, .int .i64 tt, .int .i64 a, .int .i64 b, .string tx, .slice P L.length c] v2 v2 0 (But.refl w.heap.size v2)) HNR.out
     have C9 := aj [.int .i64 k, .int .i64 nd, .int .i64 tt, .int .i64 a, .int .i64 b, .string tx, .slice P L.length c] (show w.heap.size ≠ p by omega) (show B ≤ w.heap.size by omega) 0 C
     have N9 : aW w.heap.size p w (ac v2 w.heap.size 0 [.int .i64 k, .int .i64 nd, .int .i64 tt, .int .i64 a, .int .i64 b, .string tx, .slice P L.length c]) := N.trans (ao [.int .i64 k, .int .i64 nd, .int .i64 tt, .int .i64 a, .int .i64 b, .string tx, .slice P L.length c] (Nat.le_refl _) 0)
     have HW : Hid (_ ∧ _ ∧ _ ∧ _) := ⟨R9, OW9, C9, N9⟩
     clear R9 OW9 C9 N9 R OW C N QO HNR
     go_wp2_with (first | rw [hL] | rw [hst])
     (try go_simp)
     (try go_wp2_with fail)
     clear hL hst
     generalize ac v2 w.heap.size 0 [.int .i64 k, .int .i64 nd, .int .i64 tt, .int .i64 a, .int .i64 b, .string tx, .slice P L.length c] = vz at *
     have hL := HW.out.1.load (P := Tryz.prog) (n := 7) rfl
     (try simp only [Exit.inBlock, Exit.then])
     exact bodyPost_ret (v := .agg #[.int .i64 k, .int .i64 nd, .int .i64 tt, .int .i64 a, .int .i64 b, .string tx, .slice P L.length c]) (by simp [results, Tryz.results19, go_sem]; rw [hL]; rfl) rfl (by unfold cN; exact ⟨k, nd, tt, a, b, tx, P, L, c, rfl, hx, by omega, HW.out.2.1, HW.out.2.2.1, HW.out.2.2.2⟩)
    ·have hL := QO.load (P := Tryz.prog) (n := 7) rfl
     have CS := aU B p w.heap.size k nd tt a b tx P L c v2 C (by omega) (by omega) hx (by omega) OW _ rfl
     go_wp2_with (rw [hL])
     (try go_simp)
     (try go_wp2_with fail)
     refine CS.mono ?_
     rintro e v3 hop
     obtain ⟨k2, nd2, tt2, a2, b2, tx2, P2, L2, c2, rfl, hx2, hm2, ho2, hc2, hb2, hk2, hq2⟩ := hop
     clear CS hL
     have hno : ∀ q, (Value.slice P L.length c).ownBlock = some q → q ≠ ob ∧ q ≠ w.heap.size := fun q hq => ⟨HNE.out q hq, HNR.out q hq⟩
     have R3 : Bo v3 w.heap.size #[.int .i64 0, .int .i64 0, .int .i64 0, .int .i64 0, .int .i64 0, .string ⟨#[]⟩, .slice none 0 0] := R.kp hk2 hb2.2.2.2.1 (by omega) (fun e => (hno _ e.symm).2 rfl)
     have Q3 := QO.kp hk2 hb2.2.2.2.1 (by omega) (fun e => (hno _ e.symm).1 rfl)
     have hq3 : ∀ q, (Value.slice P2 L2.length c2).ownBlock = some q → q ≠ ob ∧ q ≠ w.heap.size := fun q hq => by
      rcases hq2 q hq with e | e
      ·exact hno q e.symm
      ·have := QO.1; exact ⟨by omega, by omega⟩
     replace N := N.trans hb2
     clear R OW C QO HNE HNR hno hk2 hq2
     have hst := Bo.store (P := Tryz.prog) (b := 0) [.int .i64 k2, .int .i64 nd2, .int .i64 tt2, .int .i64 a2, .int .i64 b2, .string tx2, .slice P2 L2.length c2] 0 0 Q3 rfl (by simp) (by intro u hu; simp only [List.mem_cons, List.not_mem_nil, or_false] at hu; rcases hu with h | h | h | h | h | h | h <;> (subst h; rfl))
     have Q4 : Bo (ac v3 ob 0 [.int .i64 k2, .int .i64 nd2, .int .i64 tt2, .int .i64 a2, .int .i64 b2, .string tx2, .slice P2 L2.length c2]) ob #[.int .i64 k2, .int .i64 nd2, .int .i64 tt2, .int .i64 a2, .int .i64 b2, .string tx2, .slice P2 L2.length c2] := Q3.putW (U := #[.int .i64 k2, .int .i64 nd2, .int .i64 tt2, .int .i64 a2, .int .i64 b2, .string tx2, .slice P2 L2.length c2]) rfl
     have hbo : But ob v3 (ac v3 ob 0 [.int .i64 k2, .int .i64 nd2, .int .i64 tt2, .int .i64 a2, .int .i64 b2, .string tx2, .slice P2 L2.length c2]) := ak [.int .i64 k2, .int .i64 nd2, .int .i64 tt2, .int .i64 a2, .int .i64 b2, .string tx2, .slice P2 L2.length c2] v3 v3 0 (But.refl ob v3)
     have R := R3.but hbo (by omega)
     have OW := ay ho2 hbo (fun q hq => (hq3 q hq).1)
     have C := aj [.int .i64 k2, .int .i64 nd2, .int .i64 tt2, .int .i64 a2, .int .i64 b2, .string tx2, .slice P2 L2.length c2] (show ob ≠ p by omega) (show B ≤ ob by omega) 0 hc2
     replace N := N.trans (ao (v := v3) [.int .i64 k2, .int .i64 nd2, .int .i64 tt2, .int .i64 a2, .int .i64 b2, .string tx2, .slice P2 L2.length c2] (show w.heap.size ≤ ob by omega) 0)
     have HNR : Hid (∀ q, (Value.slice P2 L2.length c2).ownBlock = some q → q ≠ w.heap.size) := fun q hq => (hq3 q hq).2
     have QO := Q4
     clear R3 Q3 Q4 hbo ho2 hc2 hb2 hq3
     go_upto_region 4 with (rw [hst])
     clear hst
     generalize ac v3 ob 0 [.int .i64 k2, .int .i64 nd2, .int .i64 tt2, .int .i64 a2, .int .i64 b2, .string tx2, .slice P2 L2.length c2] = v4 at *
     have hL := QO.load (P := Tryz.prog) (n := 7) rfl
     have hst := Bo.store (P := Tryz.prog) (b := 0) [.int .i64 k2, .int .i64 nd2, .int .i64 tt2, .int .i64 a2, .int .i64 b2, .string tx2, .slice P2 L2.length c2] 0 0 R rfl (by simp) (by intro u hu; simp only [List.mem_cons, List.not_mem_nil, or_false] at hu; rcases hu with h | h | h | h | h | h | h <;> (subst h; rfl))
     have R9 : Bo (ac v4 w.heap.size 0 [.int .i64 k2, .int .i64 nd2, .int .i64 tt2, .int .i64 a2, .int .i64 b2, .string tx2, .slice P2 L2.length c2]) w.heap.size #[.int .i64 k2, .int .i64 nd2, .int .i64 tt2, .int .i64 a2, .int .i64 b2, .string tx2, .slice P2 L2.length c2] := R.putW (U := #[.int .i64 k2, .int .i64 nd2, .int .i64 tt2, .int .i64 a2, .int .i64 b2, .string tx2, .slice P2 L2.length c2]) rfl
     have OW9 := ay OW (ak [.int .i64 k2, .int .i64 nd2, .int .i64 tt2, .int .i64 a2, .int .i64 b2, .string tx2, .slice P2 L2.length c2] v4 v4 0 (But.refl w.heap.size v4)) HNR.out
     have C9 := aj [.int .i64 k2, .int .i64 nd2, .int .i64 tt2, .int .i64 a2, .int .i64 b2, .string tx2, .slice P2 L2.length c2] (show w.heap.size ≠ p by omega) (show B ≤ w.heap.size by omega) 0 C
     have N9 : aW w.heap.size p w (ac v4 w.heap.size 0 [.int .i64 k2, .int .i64 nd2, .int .i64 tt2, .int .i64 a2, .int .i64 b2, .string tx2, .slice P2 L2.length c2]) := N.trans (ao [.int .i64 k2, .int .i64 nd2, .int .i64 tt2, .int .i64 a2, .int .i64 b2, .string tx2, .slice P2 L2.length c2] (Nat.le_refl _) 0)
     have HW : Hid (_ ∧ _ ∧ _ ∧ _) := ⟨R9, OW9, C9, N9⟩
     clear R9 OW9 C9 N9 R OW C N QO HNR
     go_wp2_with (first | rw [hL] | rw [hst])
     (try go_simp)
     (try go_wp2_with fail)
     clear hL hst
     generalize ac v4 w.heap.size 0 [.int .i64 k2, .int .i64 nd2, .int .i64 tt2, .int .i64 a2, .int .i64 b2, .string tx2, .slice P2 L2.length c2] = vz at *
     have hL := HW.out.1.load (P := Tryz.prog) (n := 7) rfl
     (try simp only [Exit.inBlock, Exit.then])
     exact bodyPost_ret (v := .agg #[.int .i64 k2, .int .i64 nd2, .int .i64 tt2, .int .i64 a2, .int .i64 b2, .string tx2, .slice P2 L2.length c2]) (by simp [results, Tryz.results19, go_sem]; rw [hL]; rfl) rfl (by unfold cN; exact ⟨k2, nd2, tt2, a2, b2, tx2, P2, L2, c2, rfl, hx2, hm2, HW.out.2.1, HW.out.2.2.1, HW.out.2.2.2⟩)
   ·go_simp
    (have A6 := Below.nw vx (.cells #[.int .i64 0, .int .i64 0, .int .i64 0, .int .i64 0, .int .i64 0, .string ⟨#[]⟩, .slice none 0 0] 26)); (have QO := Bo.new vx #[.int .i64 0, .int .i64 0, .int .i64 0, .int .i64 0, .int .i64 0, .string ⟨#[]⟩, .slice none 0 0] 26); (replace C := C.below A6); (replace N := N.trans (au A6 (by omega))); (replace R := R.below A6); (try replace F1 := F1.below A6); (try replace F2 := F2.below A6); (try replace QO := QO.below A6); (have hsz2 : w.heap.size < (vx.alloc (.cells #[.int .i64 0, .int .i64 0, .int .i64 0, .int .i64 0, .int .i64 0, .string ⟨#[]⟩, .slice none 0 0] 26)).heap.size := by simp; omega); (have hob : w.heap.size < vx.heap.size := hsz); (clear A6 hsz); (have hsz := hsz2); (clear hsz2); (generalize vx.alloc (.cells #[.int .i64 0, .int .i64 0, .int .i64 0, .int .i64 0, .int .i64 0, .string ⟨#[]⟩, .slice none 0 0] 26) = vx' at *); (generalize vx.heap.size = ob at *); (clear vx); (generalize vx' = vx at *)
    refine hK.out _ _ ?_ (fun hHeld => ?_)
    ·trivial
    clear hK K
    (try simp only [zA])
    refine zQ 4 fun K hK => ?_
    go_simp
    (have QOlt : Hid (ob < vx.heap.size) := QO.1); refine (am B p lb nb vx C ⟨⟨F2.1, by omega, F2.2⟩, F1.1, by omega, F1.2⟩).mono ?_; rintro e vy hop; obtain ⟨k, nd, tt, a, b, tx, P, L, c, rfl, hx, hm, ho, hc, hb, hk, hq⟩ := hop; (have hbb : But p vx vy := hb); (replace R := R.but hbb (by omega)); (try replace QO := QO.but hbb (by omega)); (replace N := N.trans (hbb.belP (by omega))); (have C2 := hc); (clear C); (have C := C2); (clear C2); (have OW := ah ho (show w.heap.size ≤ vx.heap.size by omega)); (have HNE : Hid (∀ q, (Value.slice P L.length c).ownBlock = some q → q ≠ ob) := fun q hqq => by (have q1 := QOlt.out); rcases hq q hqq with e | e; (· cases e); (· omega)); (have hsz2 : w.heap.size < vy.heap.size := Nat.lt_of_lt_of_le hsz hbb.2.2.2.1); (have HNW : Hid (∀ q, (Value.slice P L.length c).ownBlock = some q → q ≠ w.heap.size) := fun q hqq => by rcases hq q hqq with e | e; (· cases e); (· omega)); (clear hsz ho hc hb hk hq hbb F1 F2); (have hsz := hsz2); (clear hsz2); (try clear QOlt); (clear vx); (generalize vy = vx at *)
    (try go_wp2_with fail)
    refine hK.out _ _ ?_ (fun hHeld => ?_)
    ·trivial
    clear hK K
    (try simp only [zA])
    refine zQ 6 fun K hK => ?_
    go_simp
    (have hst := Bo.store (P := Tryz.prog) (b := 0) [.int .i64 k, .int .i64 nd, .int .i64 tt, .int .i64 a, .int .i64 b, .string tx, .slice P L.length c] 0 0 QO rfl (by simp) (by intro u hu; simp only [List.mem_cons, List.not_mem_nil, or_false] at hu; rcases hu with h | h | h | h | h | h | h <;> (subst h; rfl))); (try rw [hst]); (try go_simp)
    refine hK.out _ _ ?_ (fun hHeld => ?_)
    ·trivial
    clear hK K
    (try simp only [zA])
    refine wpAnyH_done (by kernel_rfl) ?_ _
    have hv0 : w.heap.size < (ac vx ob 0 [.int .i64 k, .int .i64 nd, .int .i64 tt, .int .i64 a, .int .i64 b, .string tx, .slice P L.length c]).heap.size := by rw [aR]; exact hsz
    have HNR0 : Hid (∀ q, (Value.slice P L.length c).ownBlock = some q → q ≠ w.heap.size) := HNW.out
    clear hst
    have Q1 : Bo (ac vx ob 0 [.int .i64 k, .int .i64 nd, .int .i64 tt, .int .i64 a, .int .i64 b, .string tx, .slice P L.length c]) ob #[.int .i64 k, .int .i64 nd, .int .i64 tt, .int .i64 a, .int .i64 b, .string tx, .slice P L.length c] := QO.putW (U := #[.int .i64 k, .int .i64 nd, .int .i64 tt, .int .i64 a, .int .i64 b, .string tx, .slice P L.length c]) rfl
    have hbo : But ob vx (ac vx ob 0 [.int .i64 k, .int .i64 nd, .int .i64 tt, .int .i64 a, .int .i64 b, .string tx, .slice P L.length c]) := ak [.int .i64 k, .int .i64 nd, .int .i64 tt, .int .i64 a, .int .i64 b, .string tx, .slice P L.length c] vx vx 0 (But.refl ob vx)
    replace R := R.but hbo (by omega)
    replace OW := ay OW hbo HNE.out
    replace C := aj [.int .i64 k, .int .i64 nd, .int .i64 tt, .int .i64 a, .int .i64 b, .string tx, .slice P L.length c] (show ob ≠ p by omega) (show B ≤ ob by omega) 0 C
    replace N := N.trans (ao (v := vx) [.int .i64 k, .int .i64 nd, .int .i64 tt, .int .i64 a, .int .i64 b, .string tx, .slice P L.length c] (show w.heap.size ≤ ob by omega) 0)
    have HNR : Hid (∀ q, (Value.slice P L.length c).ownBlock = some q → q ≠ w.heap.size) := HNR0.out
    clear QO hbo hsz
    have QO := Q1
    clear Q1
    generalize ac vx ob 0 [.int .i64 k, .int .i64 nd, .int .i64 tt, .int .i64 a, .int .i64 b, .string tx, .slice P L.length c] = v1 at *
    go_wp2_with fail
    refine (aB B p 8 v1 C).mono ?_
    rintro e v2 ⟨bo, rfl, cc, bb⟩
    replace R := R.but bb (by omega)
    replace QO := QO.but bb (by omega)
    replace OW := br OW bb (by omega)
    replace N := N.trans (bb.belP (Nat.le_of_lt hv0))
    have hv2 : w.heap.size < v2.heap.size := Nat.lt_of_lt_of_le hv0 bb.2.2.2.1
    clear C bb hv0
    have C := cc
    clear cc
    cases bo
    ·skip
     have hL := QO.load (P := Tryz.prog) (n := 7) rfl
     have hst := Bo.store (P := Tryz.prog) (b := 0) [.int .i64 k, .int .i64 nd, .int .i64 tt, .int .i64 a, .int .i64 b, .string tx, .slice P L.length c] 0 0 R rfl (by simp) (by intro u hu; simp only [List.mem_cons, List.not_mem_nil, or_false] at hu; rcases hu with h | h | h | h | h | h | h <;> (subst h; rfl))
     have R9 : Bo (ac v2 w.heap.size 0 [.int .i64 k, .int .i64 nd, .int .i64 tt, .int .i64 a, .int .i64 b, .string tx, .slice P L.length c]) w.heap.size #[.int .i64 k, .int .i64 nd, .int .i64 tt, .int .i64 a, .int .i64 b, .string tx, .slice P L.length c] := R.putW (U := #[.int .i64 k, .int .i64 nd, .int .i64 tt, .int .i64 a, .int .i64 b, .string tx, .slice P L.length c]) rfl
     have OW9 := ay OW (ak [.int .i64 k, .int .i64 nd, .int .i64 tt, .int .i64 a, .int .i64 b, .string tx, .slice P L.length c] v2 v2 0 (But.refl w.heap.size v2)) HNR.out
     have C9 := aj [.int .i64 k, .int .i64 nd, .int .i64 tt, .int .i64 a, .int .i64 b, .string tx, .slice P L.length c] (show w.heap.size ≠ p by omega) (show B ≤ w.heap.size by omega) 0 C
     have N9 : aW w.heap.size p w (ac v2 w.heap.size 0 [.int .i64 k, .int .i64 nd, .int .i64 tt, .int .i64 a, .int .i64 b, .string tx, .slice P L.length c]) := N.trans (ao [.int .i64 k, .int .i64 nd, .int .i64 tt, .int .i64 a, .int .i64 b, .string tx, .slice P L.length c] (Nat.le_refl _) 0)
     have HW : Hid (_ ∧ _ ∧ _ ∧ _) := ⟨R9, OW9, C9, N9⟩
     clear R9 OW9 C9 N9 R OW C N QO HNR
     go_wp2_with (first | rw [hL] | rw [hst])
     (try go_simp)
     (try go_wp2_with fail)
     clear hL hst
     generalize ac v2 w.heap.size 0 [.int .i64 k, .int .i64 nd, .int .i64 tt, .int .i64 a, .int .i64 b, .string tx, .slice P L.length c] = vz at *
     have hL := HW.out.1.load (P := Tryz.prog) (n := 7) rfl
     (try simp only [Exit.inBlock, Exit.then])
     exact bodyPost_ret (v := .agg #[.int .i64 k, .int .i64 nd, .int .i64 tt, .int .i64 a, .int .i64 b, .string tx, .slice P L.length c]) (by simp [results, Tryz.results19, go_sem]; rw [hL]; rfl) rfl (by unfold cN; exact ⟨k, nd, tt, a, b, tx, P, L, c, rfl, hx, by omega, HW.out.2.1, HW.out.2.2.1, HW.out.2.2.2⟩)
    ·have hL := QO.load (P := Tryz.prog) (n := 7) rfl
     have CS := aU B p w.heap.size k nd tt a b tx P L c v2 C (by omega) (by omega) hx (by omega) OW _ rfl
     go_wp2_with (rw [hL])
     (try go_simp)
     (try go_wp2_with fail)
     refine CS.mono ?_
     rintro e v3 hop
     obtain ⟨k2, nd2, tt2, a2, b2, tx2, P2, L2, c2, rfl, hx2, hm2, ho2, hc2, hb2, hk2, hq2⟩ := hop
     clear CS hL
     have hno : ∀ q, (Value.slice P L.length c).ownBlock = some q → q ≠ ob ∧ q ≠ w.heap.size := fun q hq => ⟨HNE.out q hq, HNR.out q hq⟩
     have R3 : Bo v3 w.heap.size #[.int .i64 0, .int .i64 0, .int .i64 0, .int .i64 0, .int .i64 0, .string ⟨#[]⟩, .slice none 0 0] := R.kp hk2 hb2.2.2.2.1 (by omega) (fun e => (hno _ e.symm).2 rfl)
     have Q3 := QO.kp hk2 hb2.2.2.2.1 (by omega) (fun e => (hno _ e.symm).1 rfl)
     have hq3 : ∀ q, (Value.slice P2 L2.length c2).ownBlock = some q → q ≠ ob ∧ q ≠ w.heap.size := fun q hq => by
      rcases hq2 q hq with e | e
      ·exact hno q e.symm
      ·have := QO.1; exact ⟨by omega, by omega⟩
     replace N := N.trans hb2
     clear R OW C QO HNE HNR hno hk2 hq2
     have hst := Bo.store (P := Tryz.prog) (b := 0) [.int .i64 k2, .int .i64 nd2, .int .i64 tt2, .int .i64 a2, .int .i64 b2, .string tx2, .slice P2 L2.length c2] 0 0 Q3 rfl (by simp) (by intro u hu; simp only [List.mem_cons, List.not_mem_nil, or_false] at hu; rcases hu with h | h | h | h | h | h | h <;> (subst h; rfl))
     have Q4 : Bo (ac v3 ob 0 [.int .i64 k2, .int .i64 nd2, .int .i64 tt2, .int .i64 a2, .int .i64 b2, .string tx2, .slice P2 L2.length c2]) ob #[.int .i64 k2, .int .i64 nd2, .int .i64 tt2, .int .i64 a2, .int .i64 b2, .string tx2, .slice P2 L2.length c2] := Q3.putW (U := #[.int .i64 k2, .int .i64 nd2, .int .i64 tt2, .int .i64 a2, .int .i64 b2, .string tx2, .slice P2 L2.length c2]) rfl
     have hbo : But ob v3 (ac v3 ob 0 [.int .i64 k2, .int .i64 nd2, .int .i64 tt2, .int .i64 a2, .int .i64 b2, .string tx2, .slice P2 L2.length c2]) := ak [.int .i64 k2, .int .i64 nd2, .int .i64 tt2, .int .i64 a2, .int .i64 b2, .string tx2, .slice P2 L2.length c2] v3 v3 0 (But.refl ob v3)
     have R := R3.but hbo (by omega)
     have OW := ay ho2 hbo (fun q hq => (hq3 q hq).1)
     have C := aj [.int .i64 k2, .int .i64 nd2, .int .i64 tt2, .int .i64 a2, .int .i64 b2, .string tx2, .slice P2 L2.length c2] (show ob ≠ p by omega) (show B ≤ ob by omega) 0 hc2
     replace N := N.trans (ao (v := v3) [.int .i64 k2, .int .i64 nd2, .int .i64 tt2, .int .i64 a2, .int .i64 b2, .string tx2, .slice P2 L2.length c2] (show w.heap.size ≤ ob by omega) 0)
     have HNR : Hid (∀ q, (Value.slice P2 L2.length c2).ownBlock = some q → q ≠ w.heap.size) := fun q hq => (hq3 q hq).2
     have QO := Q4
     clear R3 Q3 Q4 hbo ho2 hc2 hb2 hq3
     go_upto_region 4 with (rw [hst])
     clear hst
     generalize ac v3 ob 0 [.int .i64 k2, .int .i64 nd2, .int .i64 tt2, .int .i64 a2, .int .i64 b2, .string tx2, .slice P2 L2.length c2] = v4 at *
     have hL := QO.load (P := Tryz.prog) (n := 7) rfl
     have hst := Bo.store (P := Tryz.prog) (b := 0) [.int .i64 k2, .int .i64 nd2, .int .i64 tt2, .int .i64 a2, .int .i64 b2, .string tx2, .slice P2 L2.length c2] 0 0 R rfl (by simp) (by intro u hu; simp only [List.mem_cons, List.not_mem_nil, or_false] at hu; rcases hu with h | h | h | h | h | h | h <;> (subst h; rfl))
     have R9 : Bo (ac v4 w.heap.size 0 [.int .i64 k2, .int .i64 nd2, .int .i64 tt2, .int .i64 a2, .int .i64 b2, .string tx2, .slice P2 L2.length c2]) w.heap.size #[.int .i64 k2, .int .i64 nd2, .int .i64 tt2, .int .i64 a2, .int .i64 b2, .string tx2, .slice P2 L2.length c2] := R.putW (U := #[.int .i64 k2, .int .i64 nd2, .int .i64 tt2, .int .i64 a2, .int .i64 b2, .string tx2, .slice P2 L2.length c2]) rfl
     have OW9 := ay OW (ak [.int .i64 k2, .int .i64 nd2, .int .i64 tt2, .int .i64 a2, .int .i64 b2, .string tx2, .slice P2 L2.length c2] v4 v4 0 (But.refl w.heap.size v4)) HNR.out
     have C9 := aj [.int .i64 k2, .int .i64 nd2, .int .i64 tt2, .int .i64 a2, .int .i64 b2, .string tx2, .slice P2 L2.length c2] (show w.heap.size ≠ p by omega) (show B ≤ w.heap.size by omega) 0 C
     have N9 : aW w.heap.size p w (ac v4 w.heap.size 0 [.int .i64 k2, .int .i64 nd2, .int .i64 tt2, .int .i64 a2, .int .i64 b2, .string tx2, .slice P2 L2.length c2]) := N.trans (ao [.int .i64 k2, .int .i64 nd2, .int .i64 tt2, .int .i64 a2, .int .i64 b2, .string tx2, .slice P2 L2.length c2] (Nat.le_refl _) 0)
     have HW : Hid (_ ∧ _ ∧ _ ∧ _) := ⟨R9, OW9, C9, N9⟩
     clear R9 OW9 C9 N9 R OW C N QO HNR
     go_wp2_with (first | rw [hL] | rw [hst])
     (try go_simp)
     (try go_wp2_with fail)
     clear hL hst
     generalize ac v4 w.heap.size 0 [.int .i64 k2, .int .i64 nd2, .int .i64 tt2, .int .i64 a2, .int .i64 b2, .string tx2, .slice P2 L2.length c2] = vz at *
     have hL := HW.out.1.load (P := Tryz.prog) (n := 7) rfl
     (try simp only [Exit.inBlock, Exit.then])
     exact bodyPost_ret (v := .agg #[.int .i64 k2, .int .i64 nd2, .int .i64 tt2, .int .i64 a2, .int .i64 b2, .string tx2, .slice P2 L2.length c2]) (by simp [results, Tryz.results19, go_sem]; rw [hL]; rfl) rfl (by unfold cN; exact ⟨k2, nd2, tt2, a2, b2, tx2, P2, L2, c2, rfl, hx2, hm2, HW.out.2.1, HW.out.2.2.1, HW.out.2.2.2⟩)
  ·go_simp
   (have A6 := Below.nw vx (.cells #[.int .i64 0, .int .i64 0, .int .i64 0, .int .i64 0, .int .i64 0, .string ⟨#[]⟩, .slice none 0 0] 26)); (have QO := Bo.new vx #[.int .i64 0, .int .i64 0, .int .i64 0, .int .i64 0, .int .i64 0, .string ⟨#[]⟩, .slice none 0 0] 26); (replace C := C.below A6); (replace N := N.trans (au A6 (by omega))); (replace R := R.below A6); (try replace F1 := F1.below A6); (try replace F2 := F2.below A6); (try replace QO := QO.below A6); (have hsz2 : w.heap.size < (vx.alloc (.cells #[.int .i64 0, .int .i64 0, .int .i64 0, .int .i64 0, .int .i64 0, .string ⟨#[]⟩, .slice none 0 0] 26)).heap.size := by simp; omega); (have hob : w.heap.size < vx.heap.size := hsz); (clear A6 hsz); (have hsz := hsz2); (clear hsz2); (generalize vx.alloc (.cells #[.int .i64 0, .int .i64 0, .int .i64 0, .int .i64 0, .int .i64 0, .string ⟨#[]⟩, .slice none 0 0] 26) = vx' at *); (generalize vx.heap.size = ob at *); (clear vx); (generalize vx' = vx at *)
   refine hK.out _ _ ?_ (fun hHeld => ?_)
   ·trivial
   clear hK K
   (try simp only [zA])
   refine zQ 2 fun K hK => ?_
   go_simp
   (try rw [cl vx]); (try go_simp); (have A6 := Below.nw vx (.cells (madeCells #[.bool false] 4) 4)); (have F2 : LiF (vx.alloc (.cells (madeCells #[.bool false] 4) 4)) vx.heap.size := LiF.new vx); (replace C := C.below A6); (replace N := N.trans (au A6 (by omega))); (replace R := R.below A6); (try replace F1 := F1.below A6); (try replace F2 := F2.below A6); (try replace QO := QO.below A6); (have hsz2 : w.heap.size < (vx.alloc (.cells (madeCells #[.bool false] 4) 4)).heap.size := by simp; omega); (have hlb : w.heap.size < vx.heap.size := hsz); (clear A6 hsz); (have hsz := hsz2); (clear hsz2); (generalize vx.alloc (.cells (madeCells #[.bool false] 4) 4) = vx' at *); (generalize vx.heap.size = lb at *); (clear vx); (generalize vx' = vx at *)
   refine hK.out _ _ ?_ (fun hHeld => ?_)
   ·trivial
   clear hK K
   (try simp only [zA])
   refine zTk 3 ?_
   refine zQ 4 fun K hK => ?_
   go_simp
   (have QOlt : Hid (ob < vx.heap.size) := QO.1); refine (am B p lb nb vx C ⟨⟨F2.1, by omega, F2.2⟩, F1.1, by omega, F1.2⟩).mono ?_; rintro e vy hop; obtain ⟨k, nd, tt, a, b, tx, P, L, c, rfl, hx, hm, ho, hc, hb, hk, hq⟩ := hop; (have hbb : But p vx vy := hb); (replace R := R.but hbb (by omega)); (try replace QO := QO.but hbb (by omega)); (replace N := N.trans (hbb.belP (by omega))); (have C2 := hc); (clear C); (have C := C2); (clear C2); (have OW := ah ho (show w.heap.size ≤ vx.heap.size by omega)); (have HNE : Hid (∀ q, (Value.slice P L.length c).ownBlock = some q → q ≠ ob) := fun q hqq => by (have q1 := QOlt.out); rcases hq q hqq with e | e; (· cases e); (· omega)); (have hsz2 : w.heap.size < vy.heap.size := Nat.lt_of_lt_of_le hsz hbb.2.2.2.1); (have HNW : Hid (∀ q, (Value.slice P L.length c).ownBlock = some q → q ≠ w.heap.size) := fun q hqq => by rcases hq q hqq with e | e; (· cases e); (· omega)); (clear hsz ho hc hb hk hq hbb F1 F2); (have hsz := hsz2); (clear hsz2); (try clear QOlt); (clear vx); (generalize vy = vx at *)
   (try go_wp2_with fail)
   refine hK.out _ _ ?_ (fun hHeld => ?_)
   ·trivial
   clear hK K
   (try simp only [zA])
   refine zQ 6 fun K hK => ?_
   go_simp
   (have hst := Bo.store (P := Tryz.prog) (b := 0) [.int .i64 k, .int .i64 nd, .int .i64 tt, .int .i64 a, .int .i64 b, .string tx, .slice P L.length c] 0 0 QO rfl (by simp) (by intro u hu; simp only [List.mem_cons, List.not_mem_nil, or_false] at hu; rcases hu with h | h | h | h | h | h | h <;> (subst h; rfl))); (try rw [hst]); (try go_simp)
   refine hK.out _ _ ?_ (fun hHeld => ?_)
   ·trivial
   clear hK K
   (try simp only [zA])
   refine wpAnyH_done (by kernel_rfl) ?_ _
   have hv0 : w.heap.size < (ac vx ob 0 [.int .i64 k, .int .i64 nd, .int .i64 tt, .int .i64 a, .int .i64 b, .string tx, .slice P L.length c]).heap.size := by rw [aR]; exact hsz
   have HNR0 : Hid (∀ q, (Value.slice P L.length c).ownBlock = some q → q ≠ w.heap.size) := HNW.out
   clear hst
   have Q1 : Bo (ac vx ob 0 [.int .i64 k, .int .i64 nd, .int .i64 tt, .int .i64 a, .int .i64 b, .string tx, .slice P L.length c]) ob #[.int .i64 k, .int .i64 nd, .int .i64 tt, .int .i64 a, .int .i64 b, .string tx, .slice P L.length c] := QO.putW (U := #[.int .i64 k, .int .i64 nd, .int .i64 tt, .int .i64 a, .int .i64 b, .string tx, .slice P L.length c]) rfl
   have hbo : But ob vx (ac vx ob 0 [.int .i64 k, .int .i64 nd, .int .i64 tt, .int .i64 a, .int .i64 b, .string tx, .slice P L.length c]) := ak [.int .i64 k, .int .i64 nd, .int .i64 tt, .int .i64 a, .int .i64 b, .string tx, .slice P L.length c] vx vx 0 (But.refl ob vx)
   replace R := R.but hbo (by omega)
   replace OW := ay OW hbo HNE.out
   replace C := aj [.int .i64 k, .int .i64 nd, .int .i64 tt, .int .i64 a, .int .i64 b, .string tx, .slice P L.length c] (show ob ≠ p by omega) (show B ≤ ob by omega) 0 C
   replace N := N.trans (ao (v := vx) [.int .i64 k, .int .i64 nd, .int .i64 tt, .int .i64 a, .int .i64 b, .string tx, .slice P L.length c] (show w.heap.size ≤ ob by omega) 0)
   have HNR : Hid (∀ q, (Value.slice P L.length c).ownBlock = some q → q ≠ w.heap.size) := HNR0.out
   clear QO hbo hsz
   have QO := Q1
   clear Q1
   generalize ac vx ob 0 [.int .i64 k, .int .i64 nd, .int .i64 tt, .int .i64 a, .int .i64 b, .string tx, .slice P L.length c] = v1 at *
   go_wp2_with fail
   refine (aB B p 8 v1 C).mono ?_
   rintro e v2 ⟨bo, rfl, cc, bb⟩
   replace R := R.but bb (by omega)
   replace QO := QO.but bb (by omega)
   replace OW := br OW bb (by omega)
   replace N := N.trans (bb.belP (Nat.le_of_lt hv0))
   have hv2 : w.heap.size < v2.heap.size := Nat.lt_of_lt_of_le hv0 bb.2.2.2.1
   clear C bb hv0
   have C := cc
   clear cc
   cases bo
   ·skip
    have hL := QO.load (P := Tryz.prog) (n := 7) rfl
    have hst := Bo.store (P := Tryz.prog) (b := 0) [.int .i64 k, .int .i64 nd, .int .i64 tt, .int .i64 a, .int .i64 b, .string tx, .slice P L.length c] 0 0 R rfl (by simp) (by intro u hu; simp only [List.mem_cons, List.not_mem_nil, or_false] at hu; rcases hu with h | h | h | h | h | h | h <;> (subst h; rfl))
    have R9 : Bo (ac v2 w.heap.size 0 [.int .i64 k, .int .i64 nd, .int .i64 tt, .int .i64 a, .int .i64 b, .string tx, .slice P L.length c]) w.heap.size #[.int .i64 k, .int .i64 nd, .int .i64 tt, .int .i64 a, .int .i64 b, .string tx, .slice P L.length c] := R.putW (U := #[.int .i64 k, .int .i64 nd, .int .i64 tt, .int .i64 a, .int .i64 b, .string tx, .slice P L.length c]) rfl
    have OW9 := ay OW (ak [.int .i64 k, .int .i64 nd, .int .i64 tt, .int .i64 a, .int .i64 b, .string tx, .slice P L.length c] v2 v2 0 (But.refl w.heap.size v2)) HNR.out
    have C9 := aj [.int .i64 k, .int .i64 nd, .int .i64 tt, .int .i64 a, .int .i64 b, .string tx, .slice P L.length c] (show w.heap.size ≠ p by omega) (show B ≤ w.heap.size by omega) 0 C
    have N9 : aW w.heap.size p w (ac v2 w.heap.size 0 [.int .i64 k, .int .i64 nd, .int .i64 tt, .int .i64 a, .int .i64 b, .string tx, .slice P L.length c]) := N.trans (ao [.int .i64 k, .int .i64 nd, .int .i64 tt, .int .i64 a, .int .i64 b, .string tx, .slice P L.length c] (Nat.le_refl _) 0)
    have HW : Hid (_ ∧ _ ∧ _ ∧ _) := ⟨R9, OW9, C9, N9⟩
    clear R9 OW9 C9 N9 R OW C N QO HNR
    go_wp2_with (first | rw [hL] | rw [hst])
    (try go_simp)
    (try go_wp2_with fail)
    clear hL hst
    generalize ac v2 w.heap.size 0 [.int .i64 k, .int .i64 nd, .int .i64 tt, .int .i64 a, .int .i64 b, .string tx, .slice P L.length c] = vz at *
    have hL := HW.out.1.load (P := Tryz.prog) (n := 7) rfl
    (try simp only [Exit.inBlock, Exit.then])
    exact bodyPost_ret (v := .agg #[.int .i64 k, .int .i64 nd, .int .i64 tt, .int .i64 a, .int .i64 b, .string tx, .slice P L.length c]) (by simp [results, Tryz.results19, go_sem]; rw [hL]; rfl) rfl (by unfold cN; exact ⟨k, nd, tt, a, b, tx, P, L, c, rfl, hx, by omega, HW.out.2.1, HW.out.2.2.1, HW.out.2.2.2⟩)
   ·have hL := QO.load (P := Tryz.prog) (n := 7) rfl
    have CS := aU B p w.heap.size k nd tt a b tx P L c v2 C (by omega) (by omega) hx (by omega) OW _ rfl
    go_wp2_with (rw [hL])
    (try go_simp)
    (try go_wp2_with fail)
    refine CS.mono ?_
    rintro e v3 hop
    obtain ⟨k2, nd2, tt2, a2, b2, tx2, P2, L2, c2, rfl, hx2, hm2, ho2, hc2, hb2, hk2, hq2⟩ := hop
    clear CS hL
    have hno : ∀ q, (Value.slice P L.length c).ownBlock = some q → q ≠ ob ∧ q ≠ w.heap.size := fun q hq => ⟨HNE.out q hq, HNR.out q hq⟩
    have R3 : Bo v3 w.heap.size #[.int .i64 0, .int .i64 0, .int .i64 0, .int .i64 0, .int .i64 0, .string ⟨#[]⟩, .slice none 0 0] := R.kp hk2 hb2.2.2.2.1 (by omega) (fun e => (hno _ e.symm).2 rfl)
    have Q3 := QO.kp hk2 hb2.2.2.2.1 (by omega) (fun e => (hno _ e.symm).1 rfl)
    have hq3 : ∀ q, (Value.slice P2 L2.length c2).ownBlock = some q → q ≠ ob ∧ q ≠ w.heap.size := fun q hq => by
     rcases hq2 q hq with e | e
     ·exact hno q e.symm
     ·have := QO.1; exact ⟨by omega, by omega⟩
    replace N := N.trans hb2
    clear R OW C QO HNE HNR hno hk2 hq2
    have hst := Bo.store (P := Tryz.prog) (b := 0) [.int .i64 k2, .int .i64 nd2, .int .i64 tt2, .int .i64 a2, .int .i64 b2, .string tx2, .slice P2 L2.length c2] 0 0 Q3 rfl (by simp) (by intro u hu; simp only [List.mem_cons, List.not_mem_nil, or_false] at hu; rcases hu with h | h | h | h | h | h | h <;> (subst h; rfl))
    have Q4 : Bo (ac v3 ob 0 [.int .i64 k2, .int .i64 nd2, .int .i64 tt2, .int .i64 a2, .int .i64 b2, .string tx2, .slice P2 L2.length c2]) ob #[.int .i64 k2, .int .i64 nd2, .int .i64 tt2, .int .i64 a2, .int .i64 b2, .string tx2, .slice P2 L2.length c2] := Q3.putW (U := #[.int .i64 k2, .int .i64 nd2, .int .i64 tt2, .int .i64 a2, .int .i64 b2, .string tx2, .slice P2 L2.length c2]) rfl
    have hbo : But ob v3 (ac v3 ob 0 [.int .i64 k2, .int .i64 nd2, .int .i64 tt2, .int .i64 a2, .int .i64 b2, .string tx2, .slice P2 L2.length c2]) := ak [.int .i64 k2, .int .i64 nd2, .int .i64 tt2, .int .i64 a2, .int .i64 b2, .string tx2, .slice P2 L2.length c2] v3 v3 0 (But.refl ob v3)
    have R := R3.but hbo (by omega)
    have OW := ay ho2 hbo (fun q hq => (hq3 q hq).1)
    have C := aj [.int .i64 k2, .int .i64 nd2, .int .i64 tt2, .int .i64 a2, .int .i64 b2, .string tx2, .slice P2 L2.length c2] (show ob ≠ p by omega) (show B ≤ ob by omega) 0 hc2
    replace N := N.trans (ao (v := v3) [.int .i64 k2, .int .i64 nd2, .int .i64 tt2, .int .i64 a2, .int .i64 b2, .string tx2, .slice P2 L2.length c2] (show w.heap.size ≤ ob by omega) 0)
    have HNR : Hid (∀ q, (Value.slice P2 L2.length c2).ownBlock = some q → q ≠ w.heap.size) := fun q hq => (hq3 q hq).2
    have QO := Q4
    clear R3 Q3 Q4 hbo ho2 hc2 hb2 hq3
    go_upto_region 4 with (rw [hst])
    clear hst
    generalize ac v3 ob 0 [.int .i64 k2, .int .i64 nd2, .int .i64 tt2, .int .i64 a2, .int .i64 b2, .string tx2, .slice P2 L2.length c2] = v4 at *
    have hL := QO.load (P := Tryz.prog) (n := 7) rfl
    have hst := Bo.store (P := Tryz.prog) (b := 0) [.int .i64 k2, .int .i64 nd2, .int .i64 tt2, .int .i64 a2, .int .i64 b2, .string tx2, .slice P2 L2.length c2] 0 0 R rfl (by simp) (by intro u hu; simp only [List.mem_cons, List.not_mem_nil, or_false] at hu; rcases hu with h | h | h | h | h | h | h <;> (subst h; rfl))
    have R9 : Bo (ac v4 w.heap.size 0 [.int .i64 k2, .int .i64 nd2, .int .i64 tt2, .int .i64 a2, .int .i64 b2, .string tx2, .slice P2 L2.length c2]) w.heap.size #[.int .i64 k2, .int .i64 nd2, .int .i64 tt2, .int .i64 a2, .int .i64 b2, .string tx2, .slice P2 L2.length c2] := R.putW (U := #[.int .i64 k2, .int .i64 nd2, .int .i64 tt2, .int .i64 a2, .int .i64 b2, .string tx2, .slice P2 L2.length c2]) rfl
    have OW9 := ay OW (ak [.int .i64 k2, .int .i64 nd2, .int .i64 tt2, .int .i64 a2, .int .i64 b2, .string tx2, .slice P2 L2.length c2] v4 v4 0 (But.refl w.heap.size v4)) HNR.out
    have C9 := aj [.int .i64 k2, .int .i64 nd2, .int .i64 tt2, .int .i64 a2, .int .i64 b2, .string tx2, .slice P2 L2.length c2] (show w.heap.size ≠ p by omega) (show B ≤ w.heap.size by omega) 0 C
    have N9 : aW w.heap.size p w (ac v4 w.heap.size 0 [.int .i64 k2, .int .i64 nd2, .int .i64 tt2, .int .i64 a2, .int .i64 b2, .string tx2, .slice P2 L2.length c2]) := N.trans (ao [.int .i64 k2, .int .i64 nd2, .int .i64 tt2, .int .i64 a2, .int .i64 b2, .string tx2, .slice P2 L2.length c2] (Nat.le_refl _) 0)
    have HW : Hid (_ ∧ _ ∧ _ ∧ _) := ⟨R9, OW9, C9, N9⟩
    clear R9 OW9 C9 N9 R OW C N QO HNR
    go_wp2_with (first | rw [hL] | rw [hst])
    (try go_simp)
    (try go_wp2_with fail)
    clear hL hst
    generalize ac v4 w.heap.size 0 [.int .i64 k2, .int .i64 nd2, .int .i64 tt2, .int .i64 a2, .int .i64 b2, .string tx2, .slice P2 L2.length c2] = vz at *
    have hL := HW.out.1.load (P := Tryz.prog) (n := 7) rfl
    (try simp only [Exit.inBlock, Exit.then])
    exact bodyPost_ret (v := .agg #[.int .i64 k2, .int .i64 nd2, .int .i64 tt2, .int .i64 a2, .int .i64 b2, .string tx2, .slice P2 L2.length c2]) (by simp [results, Tryz.results19, go_sem]; rw [hL]; rfl) rfl (by unfold cN; exact ⟨k2, nd2, tt2, a2, b2, tx2, P2, L2, c2, rfl, hx2, hm2, HW.out.2.1, HW.out.2.2.1, HW.out.2.2.2⟩)
 ·go_simp
  (try rw [cl vx]); (try go_simp); (have A6 := Below.nw vx (.cells (madeCells #[.bool false] 4) 4)); (have F2 : LiF (vx.alloc (.cells (madeCells #[.bool false] 4) 4)) vx.heap.size := LiF.new vx); (replace C := C.below A6); (replace N := N.trans (au A6 (by omega))); (replace R := R.below A6); (try replace F1 := F1.below A6); (try replace F2 := F2.below A6); (try replace QO := QO.below A6); (have hsz2 : w.heap.size < (vx.alloc (.cells (madeCells #[.bool false] 4) 4)).heap.size := by simp; omega); (have hlb : w.heap.size < vx.heap.size := hsz); (clear A6 hsz); (have hsz := hsz2); (clear hsz2); (generalize vx.alloc (.cells (madeCells #[.bool false] 4) 4) = vx' at *); (generalize vx.heap.size = lb at *); (clear vx); (generalize vx' = vx at *)
  refine hK.out _ _ ?_ (fun hHeld => ?_)
  ·trivial
  clear hK K
  (try simp only [zA])
  refine wpAnyH_ready (rs := [1, 5]) (by kernel_rfl) (by simp) ?_
  refine (zC (fun K hK => ?_) (zR fun K hK => ?_))
  ·go_simp
   (try rw [cm vx]); (try go_simp); (have A6 := Below.nw vx (.cells (madeCells #[.int .i64 0, .int .i64 0, .int .i64 0, .int .i64 0, .bool false, .int .i64 0, .int .i64 0, .int .i64 0, .int .i64 0, .int .i64 0, .slice none 0 0, .slice none 0 0, .bool false, .int .i64 0, .slice none 0 0, .int .i64 0] 64) 145)); (have F1 : NdF (vx.alloc (.cells (madeCells #[.int .i64 0, .int .i64 0, .int .i64 0, .int .i64 0, .bool false, .int .i64 0, .int .i64 0, .int .i64 0, .int .i64 0, .int .i64 0, .slice none 0 0, .slice none 0 0, .bool false, .int .i64 0, .slice none 0 0, .int .i64 0] 64) 145)) vx.heap.size := NdF.new vx); (replace C := C.below A6); (replace N := N.trans (au A6 (by omega))); (replace R := R.below A6); (try replace F1 := F1.below A6); (try replace F2 := F2.below A6); (try replace QO := QO.below A6); (have hsz2 : w.heap.size < (vx.alloc (.cells (madeCells #[.int .i64 0, .int .i64 0, .int .i64 0, .int .i64 0, .bool false, .int .i64 0, .int .i64 0, .int .i64 0, .int .i64 0, .int .i64 0, .slice none 0 0, .slice none 0 0, .bool false, .int .i64 0, .slice none 0 0, .int .i64 0] 64) 145)).heap.size := by simp; omega); (have hnb : w.heap.size < vx.heap.size := hsz); (clear A6 hsz); (have hsz := hsz2); (clear hsz2); (generalize vx.alloc (.cells (madeCells #[.int .i64 0, .int .i64 0, .int .i64 0, .int .i64 0, .bool false, .int .i64 0, .int .i64 0, .int .i64 0, .int .i64 0, .int .i64 0, .slice none 0 0, .slice none 0 0, .bool false, .int .i64 0, .slice none 0 0, .int .i64 0] 64) 145) = vx' at *); (generalize vx.heap.size = nb at *); (clear vx); (generalize vx' = vx at *)
   refine hK.out _ _ ?_ (fun hHeld => ?_)
   ·trivial
   clear hK K
   (try simp only [zA])
   refine zTk 3 ?_
   refine wpAnyH_ready (rs := [4, 5]) (by kernel_rfl) (by simp) ?_
   refine (zC (fun K hK => ?_) (zR fun K hK => ?_))
   ·go_simp
    refine (am B p lb nb vx C ⟨⟨F2.1, by omega, F2.2⟩, F1.1, by omega, F1.2⟩).mono ?_; rintro e vy hop; obtain ⟨k, nd, tt, a, b, tx, P, L, c, rfl, hx, hm, ho, hc, hb, hk, hq⟩ := hop; (have hbb : But p vx vy := hb); (replace R := R.but hbb (by omega)); (try replace QO := QO.but hbb (by omega)); (replace N := N.trans (hbb.belP (by omega))); (have C2 := hc); (clear C); (have C := C2); (clear C2); (have OW := ah ho (show w.heap.size ≤ vx.heap.size by omega)); (have hsz2 : w.heap.size < vy.heap.size := Nat.lt_of_lt_of_le hsz hbb.2.2.2.1); (have HNW : Hid (∀ q, (Value.slice P L.length c).ownBlock = some q → q ≠ w.heap.size) := fun q hqq => by rcases hq q hqq with e | e; (· cases e); (· omega)); (clear hsz ho hc hb hk hq hbb F1 F2); (have hsz := hsz2); (clear hsz2); (try clear QOlt); (clear vx); (generalize vy = vx at *)
    (try go_wp2_with fail)
    refine hK.out _ _ ?_ (fun hHeld => ?_)
    ·trivial
    clear hK K
    (try simp only [zA])
    refine zQ 5 fun K hK => ?_
    go_simp
    (have A6 := Below.nw vx (.cells #[.int .i64 0, .int .i64 0, .int .i64 0, .int .i64 0, .int .i64 0, .string ⟨#[]⟩, .slice none 0 0] 26)); (have QO := Bo.new vx #[.int .i64 0, .int .i64 0, .int .i64 0, .int .i64 0, .int .i64 0, .string ⟨#[]⟩, .slice none 0 0] 26); (have HNE : Hid (∀ q, (Value.slice P L.length c).ownBlock = some q → q ≠ vx.heap.size) := fun q hq => by have := (World.ownsRow.lt OW q hq).2; omega); (replace C := C.below A6); (replace N := N.trans (au A6 (by omega))); (replace R := R.below A6); (try replace F1 := F1.below A6); (try replace F2 := F2.below A6); (try replace QO := QO.below A6); (replace OW := ax OW A6); (have hsz2 : w.heap.size < (vx.alloc (.cells #[.int .i64 0, .int .i64 0, .int .i64 0, .int .i64 0, .int .i64 0, .string ⟨#[]⟩, .slice none 0 0] 26)).heap.size := by simp; omega); (have hob : w.heap.size < vx.heap.size := hsz); (clear A6 hsz); (have hsz := hsz2); (clear hsz2); (generalize vx.alloc (.cells #[.int .i64 0, .int .i64 0, .int .i64 0, .int .i64 0, .int .i64 0, .string ⟨#[]⟩, .slice none 0 0] 26) = vx' at *); (generalize vx.heap.size = ob at *); (clear vx); (generalize vx' = vx at *)
    refine hK.out _ _ ?_ (fun hHeld => ?_)
    ·trivial
    clear hK K
    (try simp only [zA])
    refine zQ 6 fun K hK => ?_
    go_simp
    (have hst := Bo.store (P := Tryz.prog) (b := 0) [.int .i64 k, .int .i64 nd, .int .i64 tt, .int .i64 a, .int .i64 b, .string tx, .slice P L.length c] 0 0 QO rfl (by simp) (by intro u hu; simp only [List.mem_cons, List.not_mem_nil, or_false] at hu; rcases hu with h | h | h | h | h | h | h <;> (subst h; rfl))); (try rw [hst]); (try go_simp)
    refine hK.out _ _ ?_ (fun hHeld => ?_)
    ·trivial
    clear hK K
    (try simp only [zA])
    refine wpAnyH_done (by kernel_rfl) ?_ _
    have hv0 : w.heap.size < (ac vx ob 0 [.int .i64 k, .int .i64 nd, .int .i64 tt, .int .i64 a, .int .i64 b, .string tx, .slice P L.length c]).heap.size := by rw [aR]; exact hsz
    have HNR0 : Hid (∀ q, (Value.slice P L.length c).ownBlock = some q → q ≠ w.heap.size) := HNW.out
    clear hst
    have Q1 : Bo (ac vx ob 0 [.int .i64 k, .int .i64 nd, .int .i64 tt, .int .i64 a, .int .i64 b, .string tx, .slice P L.length c]) ob #[.int .i64 k, .int .i64 nd, .int .i64 tt, .int .i64 a, .int .i64 b, .string tx, .slice P L.length c] := QO.putW (U := #[.int .i64 k, .int .i64 nd, .int .i64 tt, .int .i64 a, .int .i64 b, .string tx, .slice P L.length c]) rfl
    have hbo : But ob vx (ac vx ob 0 [.int .i64 k, .int .i64 nd, .int .i64 tt, .int .i64 a, .int .i64 b, .string tx, .slice P L.length c]) := ak [.int .i64 k, .int .i64 nd, .int .i64 tt, .int .i64 a, .int .i64 b, .string tx, .slice P L.length c] vx vx 0 (But.refl ob vx)
    replace R := R.but hbo (by omega)
    replace OW := ay OW hbo HNE.out
    replace C := aj [.int .i64 k, .int .i64 nd, .int .i64 tt, .int .i64 a, .int .i64 b, .string tx, .slice P L.length c] (show ob ≠ p by omega) (show B ≤ ob by omega) 0 C
    replace N := N.trans (ao (v := vx) [.int .i64 k, .int .i64 nd, .int .i64 tt, .int .i64 a, .int .i64 b, .string tx, .slice P L.length c] (show w.heap.size ≤ ob by omega) 0)
    have HNR : Hid (∀ q, (Value.slice P L.length c).ownBlock = some q → q ≠ w.heap.size) := HNR0.out
    clear QO hbo hsz
    have QO := Q1
    clear Q1
    generalize ac vx ob 0 [.int .i64 k, .int .i64 nd, .int .i64 tt, .int .i64 a, .int .i64 b, .string tx, .slice P L.length c] = v1 at *
    go_wp2_with fail
    refine (aB B p 8 v1 C).mono ?_
    rintro e v2 ⟨bo, rfl, cc, bb⟩
    replace R := R.but bb (by omega)
    replace QO := QO.but bb (by omega)
    replace OW := br OW bb (by omega)
    replace N := N.trans (bb.belP (Nat.le_of_lt hv0))
    have hv2 : w.heap.size < v2.heap.size := Nat.lt_of_lt_of_le hv0 bb.2.2.2.1
    clear C bb hv0
    have C := cc
    clear cc
    cases bo
    ·skip
     have hL := QO.load (P := Tryz.prog) (n := 7) rfl
     have hst := Bo.store (P := Tryz.prog) (b := 0) [.int .i64 k, .int .i64 nd, .int .i64 tt, .int .i64 a, .int .i64 b, .string tx, .slice P L.length c] 0 0 R rfl (by simp) (by intro u hu; simp only [List.mem_cons, List.not_mem_nil, or_false] at hu; rcases hu with h | h | h | h | h | h | h <;> (subst h; rfl))
     have R9 : Bo (ac v2 w.heap.size 0 [.int .i64 k, .int .i64 nd, .int .i64 tt, .int .i64 a, .int .i64 b, .string tx, .slice P L.length c]) w.heap.size #[.int .i64 k, .int .i64 nd, .int .i64 tt, .int .i64 a, .int .i64 b, .string tx, .slice P L.length c] := R.putW (U := #[.int .i64 k, .int .i64 nd, .int .i64 tt, .int .i64 a, .int .i64 b, .string tx, .slice P L.length c]) rfl
     have OW9 := ay OW (ak [.int .i64 k, .int .i64 nd, .int .i64 tt, .int .i64 a, .int .i64 b, .string tx, .slice P L.length c] v2 v2 0 (But.refl w.heap.size v2)) HNR.out
     have C9 := aj [.int .i64 k, .int .i64 nd, .int .i64 tt, .int .i64 a, .int .i64 b, .string tx, .slice P L.length c] (show w.heap.size ≠ p by omega) (show B ≤ w.heap.size by omega) 0 C
     have N9 : aW w.heap.size p w (ac v2 w.heap.size 0 [.int .i64 k, .int .i64 nd, .int .i64 tt, .int .i64 a, .int .i64 b, .string tx, .slice P L.length c]) := N.trans (ao [.int .i64 k, .int .i64 nd, .int .i64 tt, .int .i64 a, .int .i64 b, .string tx, .slice P L.length c] (Nat.le_refl _) 0)
     have HW : Hid (_ ∧ _ ∧ _ ∧ _) := ⟨R9, OW9, C9, N9⟩
     clear R9 OW9 C9 N9 R OW C N QO HNR
     go_wp2_with (first | rw [hL] | rw [hst])
     (try go_simp)
     (try go_wp2_with fail)
     clear hL hst
     generalize ac v2 w.heap.size 0 [.int .i64 k, .int .i64 nd, .int .i64 tt, .int .i64 a, .int .i64 b, .string tx, .slice P L.length c] = vz at *
     have hL := HW.out.1.load (P := Tryz.prog) (n := 7) rfl
     (try simp only [Exit.inBlock, Exit.then])
     exact bodyPost_ret (v := .agg #[.int .i64 k, .int .i64 nd, .int .i64 tt, .int .i64 a, .int .i64 b, .string tx, .slice P L.length c]) (by simp [results, Tryz.results19, go_sem]; rw [hL]; rfl) rfl (by unfold cN; exact ⟨k, nd, tt, a, b, tx, P, L, c, rfl, hx, by omega, HW.out.2.1, HW.out.2.2.1, HW.out.2.2.2⟩)
    ·have hL := QO.load (P := Tryz.prog) (n := 7) rfl
     have CS := aU B p w.heap.size k nd tt a b tx P L c v2 C (by omega) (by omega) hx (by omega) OW _ rfl
     go_wp2_with (rw [hL])
     (try go_simp)
     (try go_wp2_with fail)
     refine CS.mono ?_
     rintro e v3 hop
     obtain ⟨k2, nd2, tt2, a2, b2, tx2, P2, L2, c2, rfl, hx2, hm2, ho2, hc2, hb2, hk2, hq2⟩ := hop
     clear CS hL
     have hno : ∀ q, (Value.slice P L.length c).ownBlock = some q → q ≠ ob ∧ q ≠ w.heap.size := fun q hq => ⟨HNE.out q hq, HNR.out q hq⟩
     have R3 : Bo v3 w.heap.size #[.int .i64 0, .int .i64 0, .int .i64 0, .int .i64 0, .int .i64 0, .string ⟨#[]⟩, .slice none 0 0] := R.kp hk2 hb2.2.2.2.1 (by omega) (fun e => (hno _ e.symm).2 rfl)
     have Q3 := QO.kp hk2 hb2.2.2.2.1 (by omega) (fun e => (hno _ e.symm).1 rfl)
     have hq3 : ∀ q, (Value.slice P2 L2.length c2).ownBlock = some q → q ≠ ob ∧ q ≠ w.heap.size := fun q hq => by
      rcases hq2 q hq with e | e
      ·exact hno q e.symm
      ·have := QO.1; exact ⟨by omega, by omega⟩
     replace N := N.trans hb2
     clear R OW C QO HNE HNR hno hk2 hq2
     have hst := Bo.store (P := Tryz.prog) (b := 0) [.int .i64 k2, .int .i64 nd2, .int .i64 tt2, .int .i64 a2, .int .i64 b2, .string tx2, .slice P2 L2.length c2] 0 0 Q3 rfl (by simp) (by intro u hu; simp only [List.mem_cons, List.not_mem_nil, or_false] at hu; rcases hu with h | h | h | h | h | h | h <;> (subst h; rfl))
     have Q4 : Bo (ac v3 ob 0 [.int .i64 k2, .int .i64 nd2, .int .i64 tt2, .int .i64 a2, .int .i64 b2, .string tx2, .slice P2 L2.length c2]) ob #[.int .i64 k2, .int .i64 nd2, .int .i64 tt2, .int .i64 a2, .int .i64 b2, .string tx2, .slice P2 L2.length c2] := Q3.putW (U := #[.int .i64 k2, .int .i64 nd2, .int .i64 tt2, .int .i64 a2, .int .i64 b2, .string tx2, .slice P2 L2.length c2]) rfl
     have hbo : But ob v3 (ac v3 ob 0 [.int .i64 k2, .int .i64 nd2, .int .i64 tt2, .int .i64 a2, .int .i64 b2, .string tx2, .slice P2 L2.length c2]) := ak [.int .i64 k2, .int .i64 nd2, .int .i64 tt2, .int .i64 a2, .int .i64 b2, .string tx2, .slice P2 L2.length c2] v3 v3 0 (But.refl ob v3)
     have R := R3.but hbo (by omega)
     have OW := ay ho2 hbo (fun q hq => (hq3 q hq).1)
     have C := aj [.int .i64 k2, .int .i64 nd2, .int .i64 tt2, .int .i64 a2, .int .i64 b2, .string tx2, .slice P2 L2.length c2] (show ob ≠ p by omega) (show B ≤ ob by omega) 0 hc2
     replace N := N.trans (ao (v := v3) [.int .i64 k2, .int .i64 nd2, .int .i64 tt2, .int .i64 a2, .int .i64 b2, .string tx2, .slice P2 L2.length c2] (show w.heap.size ≤ ob by omega) 0)
     have HNR : Hid (∀ q, (Value.slice P2 L2.length c2).ownBlock = some q → q ≠ w.heap.size) := fun q hq => (hq3 q hq).2
     have QO := Q4
     clear R3 Q3 Q4 hbo ho2 hc2 hb2 hq3
     go_upto_region 4 with (rw [hst])
     clear hst
     generalize ac v3 ob 0 [.int .i64 k2, .int .i64 nd2, .int .i64 tt2, .int .i64 a2, .int .i64 b2, .string tx2, .slice P2 L2.length c2] = v4 at *
     have hL := QO.load (P := Tryz.prog) (n := 7) rfl
     have hst := Bo.store (P := Tryz.prog) (b := 0) [.int .i64 k2, .int .i64 nd2, .int .i64 tt2, .int .i64 a2, .int .i64 b2, .string tx2, .slice P2 L2.length c2] 0 0 R rfl (by simp) (by intro u hu; simp only [List.mem_cons, List.not_mem_nil, or_false] at hu; rcases hu with h | h | h | h | h | h | h <;> (subst h; rfl))
     have R9 : Bo (ac v4 w.heap.size 0 [.int .i64 k2, .int .i64 nd2, .int .i64 tt2, .int .i64 a2, .int .i64 b2, .string tx2, .slice P2 L2.length c2]) w.heap.size #[.int .i64 k2, .int .i64 nd2, .int .i64 tt2, .int .i64 a2, .int .i64 b2, .string tx2, .slice P2 L2.length c2] := R.putW (U := #[.int .i64 k2, .int .i64 nd2, .int .i64 tt2, .int .i64 a2, .int .i64 b2, .string tx2, .slice P2 L2.length c2]) rfl
     have OW9 := ay OW (ak [.int .i64 k2, .int .i64 nd2, .int .i64 tt2, .int .i64 a2, .int .i64 b2, .string tx2, .slice P2 L2.length c2] v4 v4 0 (But.refl w.heap.size v4)) HNR.out
     have C9 := aj [.int .i64 k2, .int .i64 nd2, .int .i64 tt2, .int .i64 a2, .int .i64 b2, .string tx2, .slice P2 L2.length c2] (show w.heap.size ≠ p by omega) (show B ≤ w.heap.size by omega) 0 C
     have N9 : aW w.heap.size p w (ac v4 w.heap.size 0 [.int .i64 k2, .int .i64 nd2, .int .i64 tt2, .int .i64 a2, .int .i64 b2, .string tx2, .slice P2 L2.length c2]) := N.trans (ao [.int .i64 k2, .int .i64 nd2, .int .i64 tt2, .int .i64 a2, .int .i64 b2, .string tx2, .slice P2 L2.length c2] (Nat.le_refl _) 0)
     have HW : Hid (_ ∧ _ ∧ _ ∧ _) := ⟨R9, OW9, C9, N9⟩
     clear R9 OW9 C9 N9 R OW C N QO HNR
     go_wp2_with (first | rw [hL] | rw [hst])
     (try go_simp)
     (try go_wp2_with fail)
     clear hL hst
     generalize ac v4 w.heap.size 0 [.int .i64 k2, .int .i64 nd2, .int .i64 tt2, .int .i64 a2, .int .i64 b2, .string tx2, .slice P2 L2.length c2] = vz at *
     have hL := HW.out.1.load (P := Tryz.prog) (n := 7) rfl
     (try simp only [Exit.inBlock, Exit.then])
     exact bodyPost_ret (v := .agg #[.int .i64 k2, .int .i64 nd2, .int .i64 tt2, .int .i64 a2, .int .i64 b2, .string tx2, .slice P2 L2.length c2]) (by simp [results, Tryz.results19, go_sem]; rw [hL]; rfl) rfl (by unfold cN; exact ⟨k2, nd2, tt2, a2, b2, tx2, P2, L2, c2, rfl, hx2, hm2, HW.out.2.1, HW.out.2.2.1, HW.out.2.2.2⟩)
   ·go_simp
    (have A6 := Below.nw vx (.cells #[.int .i64 0, .int .i64 0, .int .i64 0, .int .i64 0, .int .i64 0, .string ⟨#[]⟩, .slice none 0 0] 26)); (have QO := Bo.new vx #[.int .i64 0, .int .i64 0, .int .i64 0, .int .i64 0, .int .i64 0, .string ⟨#[]⟩, .slice none 0 0] 26); (replace C := C.below A6); (replace N := N.trans (au A6 (by omega))); (replace R := R.below A6); (try replace F1 := F1.below A6); (try replace F2 := F2.below A6); (try replace QO := QO.below A6); (have hsz2 : w.heap.size < (vx.alloc (.cells #[.int .i64 0, .int .i64 0, .int .i64 0, .int .i64 0, .int .i64 0, .string ⟨#[]⟩, .slice none 0 0] 26)).heap.size := by simp; omega); (have hob : w.heap.size < vx.heap.size := hsz); (clear A6 hsz); (have hsz := hsz2); (clear hsz2); (generalize vx.alloc (.cells #[.int .i64 0, .int .i64 0, .int .i64 0, .int .i64 0, .int .i64 0, .string ⟨#[]⟩, .slice none 0 0] 26) = vx' at *); (generalize vx.heap.size = ob at *); (clear vx); (generalize vx' = vx at *)
    refine hK.out _ _ ?_ (fun hHeld => ?_)
    ·trivial
    clear hK K
    (try simp only [zA])
    refine zQ 4 fun K hK => ?_
    go_simp
    (have QOlt : Hid (ob < vx.heap.size) := QO.1); refine (am B p lb nb vx C ⟨⟨F2.1, by omega, F2.2⟩, F1.1, by omega, F1.2⟩).mono ?_; rintro e vy hop; obtain ⟨k, nd, tt, a, b, tx, P, L, c, rfl, hx, hm, ho, hc, hb, hk, hq⟩ := hop; (have hbb : But p vx vy := hb); (replace R := R.but hbb (by omega)); (try replace QO := QO.but hbb (by omega)); (replace N := N.trans (hbb.belP (by omega))); (have C2 := hc); (clear C); (have C := C2); (clear C2); (have OW := ah ho (show w.heap.size ≤ vx.heap.size by omega)); (have HNE : Hid (∀ q, (Value.slice P L.length c).ownBlock = some q → q ≠ ob) := fun q hqq => by (have q1 := QOlt.out); rcases hq q hqq with e | e; (· cases e); (· omega)); (have hsz2 : w.heap.size < vy.heap.size := Nat.lt_of_lt_of_le hsz hbb.2.2.2.1); (have HNW : Hid (∀ q, (Value.slice P L.length c).ownBlock = some q → q ≠ w.heap.size) := fun q hqq => by rcases hq q hqq with e | e; (· cases e); (· omega)); (clear hsz ho hc hb hk hq hbb F1 F2); (have hsz := hsz2); (clear hsz2); (try clear QOlt); (clear vx); (generalize vy = vx at *)
    (try go_wp2_with fail)
    refine hK.out _ _ ?_ (fun hHeld => ?_)
    ·trivial
    clear hK K
    (try simp only [zA])
    refine zQ 6 fun K hK => ?_
    go_simp
    (have hst := Bo.store (P := Tryz.prog) (b := 0) [.int .i64 k, .int .i64 nd, .int .i64 tt, .int .i64 a, .int .i64 b, .string tx, .slice P L.length c] 0 0 QO rfl (by simp) (by intro u hu; simp only [List.mem_cons, List.not_mem_nil, or_false] at hu; rcases hu with h | h | h | h | h | h | h <;> (subst h; rfl))); (try rw [hst]); (try go_simp)
    refine hK.out _ _ ?_ (fun hHeld => ?_)
    ·trivial
    clear hK K
    (try simp only [zA])
    refine wpAnyH_done (by kernel_rfl) ?_ _
    have hv0 : w.heap.size < (ac vx ob 0 [.int .i64 k, .int .i64 nd, .int .i64 tt, .int .i64 a, .int .i64 b, .string tx, .slice P L.length c]).heap.size := by rw [aR]; exact hsz
    have HNR0 : Hid (∀ q, (Value.slice P L.length c).ownBlock = some q → q ≠ w.heap.size) := HNW.out
    clear hst
    have Q1 : Bo (ac vx ob 0 [.int .i64 k, .int .i64 nd, .int .i64 tt, .int .i64 a, .int .i64 b, .string tx, .slice P L.length c]) ob #[.int .i64 k, .int .i64 nd, .int .i64 tt, .int .i64 a, .int .i64 b, .string tx, .slice P L.length c] := QO.putW (U := #[.int .i64 k, .int .i64 nd, .int .i64 tt, .int .i64 a, .int .i64 b, .string tx, .slice P L.length c]) rfl
    have hbo : But ob vx (ac vx ob 0 [.int .i64 k, .int .i64 nd, .int .i64 tt, .int .i64 a, .int .i64 b, .string tx, .slice P L.length c]) := ak [.int .i64 k, .int .i64 nd, .int .i64 tt, .int .i64 a, .int .i64 b, .string tx, .slice P L.length c] vx vx 0 (But.refl ob vx)
    replace R := R.but hbo (by omega)
    replace OW := ay OW hbo HNE.out
    replace C := aj [.int .i64 k, .int .i64 nd, .int .i64 tt, .int .i64 a, .int .i64 b, .string tx, .slice P L.length c] (show ob ≠ p by omega) (show B ≤ ob by omega) 0 C
    replace N := N.trans (ao (v := vx) [.int .i64 k, .int .i64 nd, .int .i64 tt, .int .i64 a, .int .i64 b, .string tx, .slice P L.length c] (show w.heap.size ≤ ob by omega) 0)
    have HNR : Hid (∀ q, (Value.slice P L.length c).ownBlock = some q → q ≠ w.heap.size) := HNR0.out
    clear QO hbo hsz
    have QO := Q1
    clear Q1
    generalize ac vx ob 0 [.int .i64 k, .int .i64 nd, .int .i64 tt, .int .i64 a, .int .i64 b, .string tx, .slice P L.length c] = v1 at *
    go_wp2_with fail
    refine (aB B p 8 v1 C).mono ?_
    rintro e v2 ⟨bo, rfl, cc, bb⟩
    replace R := R.but bb (by omega)
    replace QO := QO.but bb (by omega)
    replace OW := br OW bb (by omega)
    replace N := N.trans (bb.belP (Nat.le_of_lt hv0))
    have hv2 : w.heap.size < v2.heap.size := Nat.lt_of_lt_of_le hv0 bb.2.2.2.1
    clear C bb hv0
    have C := cc
    clear cc
    cases bo
    ·skip
     have hL := QO.load (P := Tryz.prog) (n := 7) rfl
     have hst := Bo.store (P := Tryz.prog) (b := 0) [.int .i64 k, .int .i64 nd, .int .i64 tt, .int .i64 a, .int .i64 b, .string tx, .slice P L.length c] 0 0 R rfl (by simp) (by intro u hu; simp only [List.mem_cons, List.not_mem_nil, or_false] at hu; rcases hu with h | h | h | h | h | h | h <;> (subst h; rfl))
     have R9 : Bo (ac v2 w.heap.size 0 [.int .i64 k, .int .i64 nd, .int .i64 tt, .int .i64 a, .int .i64 b, .string tx, .slice P L.length c]) w.heap.size #[.int .i64 k, .int .i64 nd, .int .i64 tt, .int .i64 a, .int .i64 b, .string tx, .slice P L.length c] := R.putW (U := #[.int .i64 k, .int .i64 nd, .int .i64 tt, .int .i64 a, .int .i64 b, .string tx, .slice P L.length c]) rfl
     have OW9 := ay OW (ak [.int .i64 k, .int .i64 nd, .int .i64 tt, .int .i64 a, .int .i64 b, .string tx, .slice P L.length c] v2 v2 0 (But.refl w.heap.size v2)) HNR.out
     have C9 := aj [.int .i64 k, .int .i64 nd, .int .i64 tt, .int .i64 a, .int .i64 b, .string tx, .slice P L.length c] (show w.heap.size ≠ p by omega) (show B ≤ w.heap.size by omega) 0 C
     have N9 : aW w.heap.size p w (ac v2 w.heap.size 0 [.int .i64 k, .int .i64 nd, .int .i64 tt, .int .i64 a, .int .i64 b, .string tx, .slice P L.length c]) := N.trans (ao [.int .i64 k, .int .i64 nd, .int .i64 tt, .int .i64 a, .int .i64 b, .string tx, .slice P L.length c] (Nat.le_refl _) 0)
     have HW : Hid (_ ∧ _ ∧ _ ∧ _) := ⟨R9, OW9, C9, N9⟩
     clear R9 OW9 C9 N9 R OW C N QO HNR
     go_wp2_with (first | rw [hL] | rw [hst])
     (try go_simp)
     (try go_wp2_with fail)
     clear hL hst
     generalize ac v2 w.heap.size 0 [.int .i64 k, .int .i64 nd, .int .i64 tt, .int .i64 a, .int .i64 b, .string tx, .slice P L.length c] = vz at *
     have hL := HW.out.1.load (P := Tryz.prog) (n := 7) rfl
     (try simp only [Exit.inBlock, Exit.then])
     exact bodyPost_ret (v := .agg #[.int .i64 k, .int .i64 nd, .int .i64 tt, .int .i64 a, .int .i64 b, .string tx, .slice P L.length c]) (by simp [results, Tryz.results19, go_sem]; rw [hL]; rfl) rfl (by unfold cN; exact ⟨k, nd, tt, a, b, tx, P, L, c, rfl, hx, by omega, HW.out.2.1, HW.out.2.2.1, HW.out.2.2.2⟩)
    ·have hL := QO.load (P := Tryz.prog) (n := 7) rfl
     have CS := aU B p w.heap.size k nd tt a b tx P L c v2 C (by omega) (by omega) hx (by omega) OW _ rfl
     go_wp2_with (rw [hL])
     (try go_simp)
     (try go_wp2_with fail)
     refine CS.mono ?_
     rintro e v3 hop
     obtain ⟨k2, nd2, tt2, a2, b2, tx2, P2, L2, c2, rfl, hx2, hm2, ho2, hc2, hb2, hk2, hq2⟩ := hop
     clear CS hL
     have hno : ∀ q, (Value.slice P L.length c).ownBlock = some q → q ≠ ob ∧ q ≠ w.heap.size := fun q hq => ⟨HNE.out q hq, HNR.out q hq⟩
     have R3 : Bo v3 w.heap.size #[.int .i64 0, .int .i64 0, .int .i64 0, .int .i64 0, .int .i64 0, .string ⟨#[]⟩, .slice none 0 0] := R.kp hk2 hb2.2.2.2.1 (by omega) (fun e => (hno _ e.symm).2 rfl)
     have Q3 := QO.kp hk2 hb2.2.2.2.1 (by omega) (fun e => (hno _ e.symm).1 rfl)
     have hq3 : ∀ q, (Value.slice P2 L2.length c2).ownBlock = some q → q ≠ ob ∧ q ≠ w.heap.size := fun q hq => by
      rcases hq2 q hq with e | e
      ·exact hno q e.symm
      ·have := QO.1; exact ⟨by omega, by omega⟩
     replace N := N.trans hb2
     clear R OW C QO HNE HNR hno hk2 hq2
     have hst := Bo.store (P := Tryz.prog) (b := 0) [.int .i64 k2, .int .i64 nd2, .int .i64 tt2, .int .i64 a2, .int .i64 b2, .string tx2, .slice P2 L2.length c2] 0 0 Q3 rfl (by simp) (by intro u hu; simp only [List.mem_cons, List.not_mem_nil, or_false] at hu; rcases hu with h | h | h | h | h | h | h <;> (subst h; rfl))
     have Q4 : Bo (ac v3 ob 0 [.int .i64 k2, .int .i64 nd2, .int .i64 tt2, .int .i64 a2, .int .i64 b2, .string tx2, .slice P2 L2.length c2]) ob #[.int .i64 k2, .int .i64 nd2, .int .i64 tt2, .int .i64 a2, .int .i64 b2, .string tx2, .slice P2 L2.length c2] := Q3.putW (U := #[.int .i64 k2, .int .i64 nd2, .int .i64 tt2, .int .i64 a2, .int .i64 b2, .string tx2, .slice P2 L2.length c2]) rfl
     have hbo : But ob v3 (ac v3 ob 0 [.int .i64 k2, .int .i64 nd2, .int .i64 tt2, .int .i64 a2, .int .i64 b2, .string tx2, .slice P2 L2.length c2]) := ak [.int .i64 k2, .int .i64 nd2, .int .i64 tt2, .int .i64 a2, .int .i64 b2, .string tx2, .slice P2 L2.length c2] v3 v3 0 (But.refl ob v3)
     have R := R3.but hbo (by omega)
     have OW := ay ho2 hbo (fun q hq => (hq3 q hq).1)
     have C := aj [.int .i64 k2, .int .i64 nd2, .int .i64 tt2, .int .i64 a2, .int .i64 b2, .string tx2, .slice P2 L2.length c2] (show ob ≠ p by omega) (show B ≤ ob by omega) 0 hc2
     replace N := N.trans (ao (v := v3) [.int .i64 k2, .int .i64 nd2, .int .i64 tt2, .int .i64 a2, .int .i64 b2, .string tx2, .slice P2 L2.length c2] (show w.heap.size ≤ ob by omega) 0)
     have HNR : Hid (∀ q, (Value.slice P2 L2.length c2).ownBlock = some q → q ≠ w.heap.size) := fun q hq => (hq3 q hq).2
     have QO := Q4
     clear R3 Q3 Q4 hbo ho2 hc2 hb2 hq3
     go_upto_region 4 with (rw [hst])
     clear hst
     generalize ac v3 ob 0 [.int .i64 k2, .int .i64 nd2, .int .i64 tt2, .int .i64 a2, .int .i64 b2, .string tx2, .slice P2 L2.length c2] = v4 at *
     have hL := QO.load (P := Tryz.prog) (n := 7) rfl
     have hst := Bo.store (P := Tryz.prog) (b := 0) [.int .i64 k2, .int .i64 nd2, .int .i64 tt2, .int .i64 a2, .int .i64 b2, .string tx2, .slice P2 L2.length c2] 0 0 R rfl (by simp) (by intro u hu; simp only [List.mem_cons, List.not_mem_nil, or_false] at hu; rcases hu with h | h | h | h | h | h | h <;> (subst h; rfl))
     have R9 : Bo (ac v4 w.heap.size 0 [.int .i64 k2, .int .i64 nd2, .int .i64 tt2, .int .i64 a2, .int .i64 b2, .string tx2, .slice P2 L2.length c2]) w.heap.size #[.int .i64 k2, .int .i64 nd2, .int .i64 tt2, .int .i64 a2, .int .i64 b2, .string tx2, .slice P2 L2.length c2] := R.putW (U := #[.int .i64 k2, .int .i64 nd2, .int .i64 tt2, .int .i64 a2, .int .i64 b2, .string tx2, .slice P2 L2.length c2]) rfl
     have OW9 := ay OW (ak [.int .i64 k2, .int .i64 nd2, .int .i64 tt2, .int .i64 a2, .int .i64 b2, .string tx2, .slice P2 L2.length c2] v4 v4 0 (But.refl w.heap.size v4)) HNR.out
     have C9 := aj [.int .i64 k2, .int .i64 nd2, .int .i64 tt2, .int .i64 a2, .int .i64 b2, .string tx2, .slice P2 L2.length c2] (show w.heap.size ≠ p by omega) (show B ≤ w.heap.size by omega) 0 C
     have N9 : aW w.heap.size p w (ac v4 w.heap.size 0 [.int .i64 k2, .int .i64 nd2, .int .i64 tt2, .int .i64 a2, .int .i64 b2, .string tx2, .slice P2 L2.length c2]) := N.trans (ao [.int .i64 k2, .int .i64 nd2, .int .i64 tt2, .int .i64 a2, .int .i64 b2, .string tx2, .slice P2 L2.length c2] (Nat.le_refl _) 0)
     have HW : Hid (_ ∧ _ ∧ _ ∧ _) := ⟨R9, OW9, C9, N9⟩
     clear R9 OW9 C9 N9 R OW C N QO HNR
     go_wp2_with (first | rw [hL] | rw [hst])
     (try go_simp)
     (try go_wp2_with fail)
     clear hL hst
     generalize ac v4 w.heap.size 0 [.int .i64 k2, .int .i64 nd2, .int .i64 tt2, .int .i64 a2, .int .i64 b2, .string tx2, .slice P2 L2.length c2] = vz at *
     have hL := HW.out.1.load (P := Tryz.prog) (n := 7) rfl
     (try simp only [Exit.inBlock, Exit.then])
     exact bodyPost_ret (v := .agg #[.int .i64 k2, .int .i64 nd2, .int .i64 tt2, .int .i64 a2, .int .i64 b2, .string tx2, .slice P2 L2.length c2]) (by simp [results, Tryz.results19, go_sem]; rw [hL]; rfl) rfl (by unfold cN; exact ⟨k2, nd2, tt2, a2, b2, tx2, P2, L2, c2, rfl, hx2, hm2, HW.out.2.1, HW.out.2.2.1, HW.out.2.2.2⟩)
  ·go_simp
   (have A6 := Below.nw vx (.cells #[.int .i64 0, .int .i64 0, .int .i64 0, .int .i64 0, .int .i64 0, .string ⟨#[]⟩, .slice none 0 0] 26)); (have QO := Bo.new vx #[.int .i64 0, .int .i64 0, .int .i64 0, .int .i64 0, .int .i64 0, .string ⟨#[]⟩, .slice none 0 0] 26); (replace C := C.below A6); (replace N := N.trans (au A6 (by omega))); (replace R := R.below A6); (try replace F1 := F1.below A6); (try replace F2 := F2.below A6); (try replace QO := QO.below A6); (have hsz2 : w.heap.size < (vx.alloc (.cells #[.int .i64 0, .int .i64 0, .int .i64 0, .int .i64 0, .int .i64 0, .string ⟨#[]⟩, .slice none 0 0] 26)).heap.size := by simp; omega); (have hob : w.heap.size < vx.heap.size := hsz); (clear A6 hsz); (have hsz := hsz2); (clear hsz2); (generalize vx.alloc (.cells #[.int .i64 0, .int .i64 0, .int .i64 0, .int .i64 0, .int .i64 0, .string ⟨#[]⟩, .slice none 0 0] 26) = vx' at *); (generalize vx.heap.size = ob at *); (clear vx); (generalize vx' = vx at *)
   refine hK.out _ _ ?_ (fun hHeld => ?_)
   ·trivial
   clear hK K
   (try simp only [zA])
   refine zQ 1 fun K hK => ?_
   go_simp
   (try rw [cm vx]); (try go_simp); (have A6 := Below.nw vx (.cells (madeCells #[.int .i64 0, .int .i64 0, .int .i64 0, .int .i64 0, .bool false, .int .i64 0, .int .i64 0, .int .i64 0, .int .i64 0, .int .i64 0, .slice none 0 0, .slice none 0 0, .bool false, .int .i64 0, .slice none 0 0, .int .i64 0] 64) 145)); (have F1 : NdF (vx.alloc (.cells (madeCells #[.int .i64 0, .int .i64 0, .int .i64 0, .int .i64 0, .bool false, .int .i64 0, .int .i64 0, .int .i64 0, .int .i64 0, .int .i64 0, .slice none 0 0, .slice none 0 0, .bool false, .int .i64 0, .slice none 0 0, .int .i64 0] 64) 145)) vx.heap.size := NdF.new vx); (replace C := C.below A6); (replace N := N.trans (au A6 (by omega))); (replace R := R.below A6); (try replace F1 := F1.below A6); (try replace F2 := F2.below A6); (try replace QO := QO.below A6); (have hsz2 : w.heap.size < (vx.alloc (.cells (madeCells #[.int .i64 0, .int .i64 0, .int .i64 0, .int .i64 0, .bool false, .int .i64 0, .int .i64 0, .int .i64 0, .int .i64 0, .int .i64 0, .slice none 0 0, .slice none 0 0, .bool false, .int .i64 0, .slice none 0 0, .int .i64 0] 64) 145)).heap.size := by simp; omega); (have hnb : w.heap.size < vx.heap.size := hsz); (clear A6 hsz); (have hsz := hsz2); (clear hsz2); (generalize vx.alloc (.cells (madeCells #[.int .i64 0, .int .i64 0, .int .i64 0, .int .i64 0, .bool false, .int .i64 0, .int .i64 0, .int .i64 0, .int .i64 0, .int .i64 0, .slice none 0 0, .slice none 0 0, .bool false, .int .i64 0, .slice none 0 0, .int .i64 0] 64) 145) = vx' at *); (generalize vx.heap.size = nb at *); (clear vx); (generalize vx' = vx at *)
   refine hK.out _ _ ?_ (fun hHeld => ?_)
   ·trivial
   clear hK K
   (try simp only [zA])
   refine zTk 3 ?_
   refine zQ 4 fun K hK => ?_
   go_simp
   (have QOlt : Hid (ob < vx.heap.size) := QO.1); refine (am B p lb nb vx C ⟨⟨F2.1, by omega, F2.2⟩, F1.1, by omega, F1.2⟩).mono ?_; rintro e vy hop; obtain ⟨k, nd, tt, a, b, tx, P, L, c, rfl, hx, hm, ho, hc, hb, hk, hq⟩ := hop; (have hbb : But p vx vy := hb); (replace R := R.but hbb (by omega)); (try replace QO := QO.but hbb (by omega)); (replace N := N.trans (hbb.belP (by omega))); (have C2 := hc); (clear C); (have C := C2); (clear C2); (have OW := ah ho (show w.heap.size ≤ vx.heap.size by omega)); (have HNE : Hid (∀ q, (Value.slice P L.length c).ownBlock = some q → q ≠ ob) := fun q hqq => by (have q1 := QOlt.out); rcases hq q hqq with e | e; (· cases e); (· omega)); (have hsz2 : w.heap.size < vy.heap.size := Nat.lt_of_lt_of_le hsz hbb.2.2.2.1); (have HNW : Hid (∀ q, (Value.slice P L.length c).ownBlock = some q → q ≠ w.heap.size) := fun q hqq => by rcases hq q hqq with e | e; (· cases e); (· omega)); (clear hsz ho hc hb hk hq hbb F1 F2); (have hsz := hsz2); (clear hsz2); (try clear QOlt); (clear vx); (generalize vy = vx at *)
   (try go_wp2_with fail)
   refine hK.out _ _ ?_ (fun hHeld => ?_)
   ·trivial
   clear hK K
   (try simp only [zA])
   refine zQ 6 fun K hK => ?_
   go_simp
   (have hst := Bo.store (P := Tryz.prog) (b := 0) [.int .i64 k, .int .i64 nd, .int .i64 tt, .int .i64 a, .int .i64 b, .string tx, .slice P L.length c] 0 0 QO rfl (by simp) (by intro u hu; simp only [List.mem_cons, List.not_mem_nil, or_false] at hu; rcases hu with h | h | h | h | h | h | h <;> (subst h; rfl))); (try rw [hst]); (try go_simp)
   refine hK.out _ _ ?_ (fun hHeld => ?_)
   ·trivial
   clear hK K
   (try simp only [zA])
   refine wpAnyH_done (by kernel_rfl) ?_ _
   have hv0 : w.heap.size < (ac vx ob 0 [.int .i64 k, .int .i64 nd, .int .i64 tt, .int .i64 a, .int .i64 b, .string tx, .slice P L.length c]).heap.size := by rw [aR]; exact hsz
   have HNR0 : Hid (∀ q, (Value.slice P L.length c).ownBlock = some q → q ≠ w.heap.size) := HNW.out
   clear hst
   have Q1 : Bo (ac vx ob 0 [.int .i64 k, .int .i64 nd, .int .i64 tt, .int .i64 a, .int .i64 b, .string tx, .slice P L.length c]) ob #[.int .i64 k, .int .i64 nd, .int .i64 tt, .int .i64 a, .int .i64 b, .string tx, .slice P L.length c] := QO.putW (U := #[.int .i64 k, .int .i64 nd, .int .i64 tt, .int .i64 a, .int .i64 b, .string tx, .slice P L.length c]) rfl
   have hbo : But ob vx (ac vx ob 0 [.int .i64 k, .int .i64 nd, .int .i64 tt, .int .i64 a, .int .i64 b, .string tx, .slice P L.length c]) := ak [.int .i64 k, .int .i64 nd, .int .i64 tt, .int .i64 a, .int .i64 b, .string tx, .slice P L.length c] vx vx 0 (But.refl ob vx)
   replace R := R.but hbo (by omega)
   replace OW := ay OW hbo HNE.out
   replace C := aj [.int .i64 k, .int .i64 nd, .int .i64 tt, .int .i64 a, .int .i64 b, .string tx, .slice P L.length c] (show ob ≠ p by omega) (show B ≤ ob by omega) 0 C
   replace N := N.trans (ao (v := vx) [.int .i64 k, .int .i64 nd, .int .i64 tt, .int .i64 a, .int .i64 b, .string tx, .slice P L.length c] (show w.heap.size ≤ ob by omega) 0)
   have HNR : Hid (∀ q, (Value.slice P L.length c).ownBlock = some q → q ≠ w.heap.size) := HNR0.out
   clear QO hbo hsz
   have QO := Q1
   clear Q1
   generalize ac vx ob 0 [.int .i64 k, .int .i64 nd, .int .i64 tt, .int .i64 a, .int .i64 b, .string tx, .slice P L.length c] = v1 at *
   go_wp2_with fail
   refine (aB B p 8 v1 C).mono ?_
   rintro e v2 ⟨bo, rfl, cc, bb⟩
   replace R := R.but bb (by omega)
   replace QO := QO.but bb (by omega)
   replace OW := br OW bb (by omega)
   replace N := N.trans (bb.belP (Nat.le_of_lt hv0))
   have hv2 : w.heap.size < v2.heap.size := Nat.lt_of_lt_of_le hv0 bb.2.2.2.1
   clear C bb hv0
   have C := cc
   clear cc
   cases bo
   ·skip
    have hL := QO.load (P := Tryz.prog) (n := 7) rfl
    have hst := Bo.store (P := Tryz.prog) (b := 0) [.int .i64 k, .int .i64 nd, .int .i64 tt, .int .i64 a, .int .i64 b, .string tx, .slice P L.length c] 0 0 R rfl (by simp) (by intro u hu; simp only [List.mem_cons, List.not_mem_nil, or_false] at hu; rcases hu with h | h | h | h | h | h | h <;> (subst h; rfl))
    have R9 : Bo (ac v2 w.heap.size 0 [.int .i64 k, .int .i64 nd, .int .i64 tt, .int .i64 a, .int .i64 b, .string tx, .slice P L.length c]) w.heap.size #[.int .i64 k, .int .i64 nd, .int .i64 tt, .int .i64 a, .int .i64 b, .string tx, .slice P L.length c] := R.putW (U := #[.int .i64 k, .int .i64 nd, .int .i64 tt, .int .i64 a, .int .i64 b, .string tx, .slice P L.length c]) rfl
    have OW9 := ay OW (ak [.int .i64 k, .int .i64 nd, .int .i64 tt, .int .i64 a, .int .i64 b, .string tx, .slice P L.length c] v2 v2 0 (But.refl w.heap.size v2)) HNR.out
    have C9 := aj [.int .i64 k, .int .i64 nd, .int .i64 tt, .int .i64 a, .int .i64 b, .string tx, .slice P L.length c] (show w.heap.size ≠ p by omega) (show B ≤ w.heap.size by omega) 0 C
    have N9 : aW w.heap.size p w (ac v2 w.heap.size 0 [.int .i64 k, .int .i64 nd, .int .i64 tt, .int .i64 a, .int .i64 b, .string tx, .slice P L.length c]) := N.trans (ao [.int .i64 k, .int .i64 nd, .int .i64 tt, .int .i64 a, .int .i64 b, .string tx, .slice P L.length c] (Nat.le_refl _) 0)
    have HW : Hid (_ ∧ _ ∧ _ ∧ _) := ⟨R9, OW9, C9, N9⟩
    clear R9 OW9 C9 N9 R OW C N QO HNR
    go_wp2_with (first | rw [hL] | rw [hst])
    (try go_simp)
    (try go_wp2_with fail)
    clear hL hst
    generalize ac v2 w.heap.size 0 [.int .i64 k, .int .i64 nd, .int .i64 tt, .int .i64 a, .int .i64 b, .string tx, .slice P L.length c] = vz at *
    have hL := HW.out.1.load (P := Tryz.prog) (n := 7) rfl
    (try simp only [Exit.inBlock, Exit.then])
    exact bodyPost_ret (v := .agg #[.int .i64 k, .int .i64 nd, .int .i64 tt, .int .i64 a, .int .i64 b, .string tx, .slice P L.length c]) (by simp [results, Tryz.results19, go_sem]; rw [hL]; rfl) rfl (by unfold cN; exact ⟨k, nd, tt, a, b, tx, P, L, c, rfl, hx, by omega, HW.out.2.1, HW.out.2.2.1, HW.out.2.2.2⟩)
   ·have hL := QO.load (P := Tryz.prog) (n := 7) rfl
    have CS := aU B p w.heap.size k nd tt a b tx P L c v2 C (by omega) (by omega) hx (by omega) OW _ rfl
    go_wp2_with (rw [hL])
    (try go_simp)
    (try go_wp2_with fail)
    refine CS.mono ?_
    rintro e v3 hop
    obtain ⟨k2, nd2, tt2, a2, b2, tx2, P2, L2, c2, rfl, hx2, hm2, ho2, hc2, hb2, hk2, hq2⟩ := hop
    clear CS hL
    have hno : ∀ q, (Value.slice P L.length c).ownBlock = some q → q ≠ ob ∧ q ≠ w.heap.size := fun q hq => ⟨HNE.out q hq, HNR.out q hq⟩
    have R3 : Bo v3 w.heap.size #[.int .i64 0, .int .i64 0, .int .i64 0, .int .i64 0, .int .i64 0, .string ⟨#[]⟩, .slice none 0 0] := R.kp hk2 hb2.2.2.2.1 (by omega) (fun e => (hno _ e.symm).2 rfl)
    have Q3 := QO.kp hk2 hb2.2.2.2.1 (by omega) (fun e => (hno _ e.symm).1 rfl)
    have hq3 : ∀ q, (Value.slice P2 L2.length c2).ownBlock = some q → q ≠ ob ∧ q ≠ w.heap.size := fun q hq => by
     rcases hq2 q hq with e | e
     ·exact hno q e.symm
     ·have := QO.1; exact ⟨by omega, by omega⟩
    replace N := N.trans hb2
    clear R OW C QO HNE HNR hno hk2 hq2
    have hst := Bo.store (P := Tryz.prog) (b := 0) [.int .i64 k2, .int .i64 nd2, .int .i64 tt2, .int .i64 a2, .int .i64 b2, .string tx2, .slice P2 L2.length c2] 0 0 Q3 rfl (by simp) (by intro u hu; simp only [List.mem_cons, List.not_mem_nil, or_false] at hu; rcases hu with h | h | h | h | h | h | h <;> (subst h; rfl))
    have Q4 : Bo (ac v3 ob 0 [.int .i64 k2, .int .i64 nd2, .int .i64 tt2, .int .i64 a2, .int .i64 b2, .string tx2, .slice P2 L2.length c2]) ob #[.int .i64 k2, .int .i64 nd2, .int .i64 tt2, .int .i64 a2, .int .i64 b2, .string tx2, .slice P2 L2.length c2] := Q3.putW (U := #[.int .i64 k2, .int .i64 nd2, .int .i64 tt2, .int .i64 a2, .int .i64 b2, .string tx2, .slice P2 L2.length c2]) rfl
    have hbo : But ob v3 (ac v3 ob 0 [.int .i64 k2, .int .i64 nd2, .int .i64 tt2, .int .i64 a2, .int .i64 b2, .string tx2, .slice P2 L2.length c2]) := ak [.int .i64 k2, .int .i64 nd2, .int .i64 tt2, .int .i64 a2, .int .i64 b2, .string tx2, .slice P2 L2.length c2] v3 v3 0 (But.refl ob v3)
    have R := R3.but hbo (by omega)
    have OW := ay ho2 hbo (fun q hq => (hq3 q hq).1)
    have C := aj [.int .i64 k2, .int .i64 nd2, .int .i64 tt2, .int .i64 a2, .int .i64 b2, .string tx2, .slice P2 L2.length c2] (show ob ≠ p by omega) (show B ≤ ob by omega) 0 hc2
    replace N := N.trans (ao (v := v3) [.int .i64 k2, .int .i64 nd2, .int .i64 tt2, .int .i64 a2, .int .i64 b2, .string tx2, .slice P2 L2.length c2] (show w.heap.size ≤ ob by omega) 0)
    have HNR : Hid (∀ q, (Value.slice P2 L2.length c2).ownBlock = some q → q ≠ w.heap.size) := fun q hq => (hq3 q hq).2
    have QO := Q4
    clear R3 Q3 Q4 hbo ho2 hc2 hb2 hq3
    go_upto_region 4 with (rw [hst])
    clear hst
    generalize ac v3 ob 0 [.int .i64 k2, .int .i64 nd2, .int .i64 tt2, .int .i64 a2, .int .i64 b2, .string tx2, .slice P2 L2.length c2] = v4 at *
    have hL := QO.load (P := Tryz.prog) (n := 7) rfl
    have hst := Bo.store (P := Tryz.prog) (b := 0) [.int .i64 k2, .int .i64 nd2, .int .i64 tt2, .int .i64 a2, .int .i64 b2, .string tx2, .slice P2 L2.length c2] 0 0 R rfl (by simp) (by intro u hu; simp only [List.mem_cons, List.not_mem_nil, or_false] at hu; rcases hu with h | h | h | h | h | h | h <;> (subst h; rfl))
    have R9 : Bo (ac v4 w.heap.size 0 [.int .i64 k2, .int .i64 nd2, .int .i64 tt2, .int .i64 a2, .int .i64 b2, .string tx2, .slice P2 L2.length c2]) w.heap.size #[.int .i64 k2, .int .i64 nd2, .int .i64 tt2, .int .i64 a2, .int .i64 b2, .string tx2, .slice P2 L2.length c2] := R.putW (U := #[.int .i64 k2, .int .i64 nd2, .int .i64 tt2, .int .i64 a2, .int .i64 b2, .string tx2, .slice P2 L2.length c2]) rfl
    have OW9 := ay OW (ak [.int .i64 k2, .int .i64 nd2, .int .i64 tt2, .int .i64 a2, .int .i64 b2, .string tx2, .slice P2 L2.length c2] v4 v4 0 (But.refl w.heap.size v4)) HNR.out
    have C9 := aj [.int .i64 k2, .int .i64 nd2, .int .i64 tt2, .int .i64 a2, .int .i64 b2, .string tx2, .slice P2 L2.length c2] (show w.heap.size ≠ p by omega) (show B ≤ w.heap.size by omega) 0 C
    have N9 : aW w.heap.size p w (ac v4 w.heap.size 0 [.int .i64 k2, .int .i64 nd2, .int .i64 tt2, .int .i64 a2, .int .i64 b2, .string tx2, .slice P2 L2.length c2]) := N.trans (ao [.int .i64 k2, .int .i64 nd2, .int .i64 tt2, .int .i64 a2, .int .i64 b2, .string tx2, .slice P2 L2.length c2] (Nat.le_refl _) 0)
    have HW : Hid (_ ∧ _ ∧ _ ∧ _) := ⟨R9, OW9, C9, N9⟩
    clear R9 OW9 C9 N9 R OW C N QO HNR
    go_wp2_with (first | rw [hL] | rw [hst])
    (try go_simp)
    (try go_wp2_with fail)
    clear hL hst
    generalize ac v4 w.heap.size 0 [.int .i64 k2, .int .i64 nd2, .int .i64 tt2, .int .i64 a2, .int .i64 b2, .string tx2, .slice P2 L2.length c2] = vz at *
    have hL := HW.out.1.load (P := Tryz.prog) (n := 7) rfl
    (try simp only [Exit.inBlock, Exit.then])
    exact bodyPost_ret (v := .agg #[.int .i64 k2, .int .i64 nd2, .int .i64 tt2, .int .i64 a2, .int .i64 b2, .string tx2, .slice P2 L2.length c2]) (by simp [results, Tryz.results19, go_sem]; rw [hL]; rfl) rfl (by unfold cN; exact ⟨k2, nd2, tt2, a2, b2, tx2, P2, L2, c2, rfl, hx2, hm2, HW.out.2.1, HW.out.2.2.1, HW.out.2.2.2⟩)
 ·go_simp
  (have A6 := Below.nw vx (.cells #[.int .i64 0, .int .i64 0, .int .i64 0, .int .i64 0, .int .i64 0, .string ⟨#[]⟩, .slice none 0 0] 26)); (have QO := Bo.new vx #[.int .i64 0, .int .i64 0, .int .i64 0, .int .i64 0, .int .i64 0, .string ⟨#[]⟩, .slice none 0 0] 26); (replace C := C.below A6); (replace N := N.trans (au A6 (by omega))); (replace R := R.below A6); (try replace F1 := F1.below A6); (try replace F2 := F2.below A6); (try replace QO := QO.below A6); (have hsz2 : w.heap.size < (vx.alloc (.cells #[.int .i64 0, .int .i64 0, .int .i64 0, .int .i64 0, .int .i64 0, .string ⟨#[]⟩, .slice none 0 0] 26)).heap.size := by simp; omega); (have hob : w.heap.size < vx.heap.size := hsz); (clear A6 hsz); (have hsz := hsz2); (clear hsz2); (generalize vx.alloc (.cells #[.int .i64 0, .int .i64 0, .int .i64 0, .int .i64 0, .int .i64 0, .string ⟨#[]⟩, .slice none 0 0] 26) = vx' at *); (generalize vx.heap.size = ob at *); (clear vx); (generalize vx' = vx at *)
  refine hK.out _ _ ?_ (fun hHeld => ?_)
  ·trivial
  clear hK K
  (try simp only [zA])
  refine wpAnyH_ready (rs := [1, 2]) (by kernel_rfl) (by simp) ?_
  refine (zC (fun K hK => ?_) (zR fun K hK => ?_))
  ·go_simp
   (try rw [cm vx]); (try go_simp); (have A6 := Below.nw vx (.cells (madeCells #[.int .i64 0, .int .i64 0, .int .i64 0, .int .i64 0, .bool false, .int .i64 0, .int .i64 0, .int .i64 0, .int .i64 0, .int .i64 0, .slice none 0 0, .slice none 0 0, .bool false, .int .i64 0, .slice none 0 0, .int .i64 0] 64) 145)); (have F1 : NdF (vx.alloc (.cells (madeCells #[.int .i64 0, .int .i64 0, .int .i64 0, .int .i64 0, .bool false, .int .i64 0, .int .i64 0, .int .i64 0, .int .i64 0, .int .i64 0, .slice none 0 0, .slice none 0 0, .bool false, .int .i64 0, .slice none 0 0, .int .i64 0] 64) 145)) vx.heap.size := NdF.new vx); (replace C := C.below A6); (replace N := N.trans (au A6 (by omega))); (replace R := R.below A6); (try replace F1 := F1.below A6); (try replace F2 := F2.below A6); (try replace QO := QO.below A6); (have hsz2 : w.heap.size < (vx.alloc (.cells (madeCells #[.int .i64 0, .int .i64 0, .int .i64 0, .int .i64 0, .bool false, .int .i64 0, .int .i64 0, .int .i64 0, .int .i64 0, .int .i64 0, .slice none 0 0, .slice none 0 0, .bool false, .int .i64 0, .slice none 0 0, .int .i64 0] 64) 145)).heap.size := by simp; omega); (have hnb : w.heap.size < vx.heap.size := hsz); (clear A6 hsz); (have hsz := hsz2); (clear hsz2); (generalize vx.alloc (.cells (madeCells #[.int .i64 0, .int .i64 0, .int .i64 0, .int .i64 0, .bool false, .int .i64 0, .int .i64 0, .int .i64 0, .int .i64 0, .int .i64 0, .slice none 0 0, .slice none 0 0, .bool false, .int .i64 0, .slice none 0 0, .int .i64 0] 64) 145) = vx' at *); (generalize vx.heap.size = nb at *); (clear vx); (generalize vx' = vx at *)
   refine hK.out _ _ ?_ (fun hHeld => ?_)
   ·trivial
   clear hK K
   (try simp only [zA])
   refine zQ 2 fun K hK => ?_
   go_simp
   (try rw [cl vx]); (try go_simp); (have A6 := Below.nw vx (.cells (madeCells #[.bool false] 4) 4)); (have F2 : LiF (vx.alloc (.cells (madeCells #[.bool false] 4) 4)) vx.heap.size := LiF.new vx); (replace C := C.below A6); (replace N := N.trans (au A6 (by omega))); (replace R := R.below A6); (try replace F1 := F1.below A6); (try replace F2 := F2.below A6); (try replace QO := QO.below A6); (have hsz2 : w.heap.size < (vx.alloc (.cells (madeCells #[.bool false] 4) 4)).heap.size := by simp; omega); (have hlb : w.heap.size < vx.heap.size := hsz); (clear A6 hsz); (have hsz := hsz2); (clear hsz2); (generalize vx.alloc (.cells (madeCells #[.bool false] 4) 4) = vx' at *); (generalize vx.heap.size = lb at *); (clear vx); (generalize vx' = vx at *)
   refine hK.out _ _ ?_ (fun hHeld => ?_)
   ·trivial
   clear hK K
   (try simp only [zA])
   refine zTk 3 ?_
   refine zQ 4 fun K hK => ?_
   go_simp
   (have QOlt : Hid (ob < vx.heap.size) := QO.1); refine (am B p lb nb vx C ⟨⟨F2.1, by omega, F2.2⟩, F1.1, by omega, F1.2⟩).mono ?_; rintro e vy hop; obtain ⟨k, nd, tt, a, b, tx, P, L, c, rfl, hx, hm, ho, hc, hb, hk, hq⟩ := hop; (have hbb : But p vx vy := hb); (replace R := R.but hbb (by omega)); (try replace QO := QO.but hbb (by omega)); (replace N := N.trans (hbb.belP (by omega))); (have C2 := hc); (clear C); (have C := C2); (clear C2); (have OW := ah ho (show w.heap.size ≤ vx.heap.size by omega)); (have HNE : Hid (∀ q, (Value.slice P L.length c).ownBlock = some q → q ≠ ob) := fun q hqq => by (have q1 := QOlt.out); rcases hq q hqq with e | e; (· cases e); (· omega)); (have hsz2 : w.heap.size < vy.heap.size := Nat.lt_of_lt_of_le hsz hbb.2.2.2.1); (have HNW : Hid (∀ q, (Value.slice P L.length c).ownBlock = some q → q ≠ w.heap.size) := fun q hqq => by rcases hq q hqq with e | e; (· cases e); (· omega)); (clear hsz ho hc hb hk hq hbb F1 F2); (have hsz := hsz2); (clear hsz2); (try clear QOlt); (clear vx); (generalize vy = vx at *)
   (try go_wp2_with fail)
   refine hK.out _ _ ?_ (fun hHeld => ?_)
   ·trivial
   clear hK K
   (try simp only [zA])
   refine zQ 6 fun K hK => ?_
   go_simp
   (have hst := Bo.store (P := Tryz.prog) (b := 0) [.int .i64 k, .int .i64 nd, .int .i64 tt, .int .i64 a, .int .i64 b, .string tx, .slice P L.length c] 0 0 QO rfl (by simp) (by intro u hu; simp only [List.mem_cons, List.not_mem_nil, or_false] at hu; rcases hu with h | h | h | h | h | h | h <;> (subst h; rfl))); (try rw [hst]); (try go_simp)
   refine hK.out _ _ ?_ (fun hHeld => ?_)
   ·trivial
   clear hK K
   (try simp only [zA])
   refine wpAnyH_done (by kernel_rfl) ?_ _
   have hv0 : w.heap.size < (ac vx ob 0 [.int .i64 k, .int .i64 nd, .int .i64 tt, .int .i64 a, .int .i64 b, .string tx, .slice P L.length c]).heap.size := by rw [aR]; exact hsz
   have HNR0 : Hid (∀ q, (Value.slice P L.length c).ownBlock = some q → q ≠ w.heap.size) := HNW.out
   clear hst
   have Q1 : Bo (ac vx ob 0 [.int .i64 k, .int .i64 nd, .int .i64 tt, .int .i64 a, .int .i64 b, .string tx, .slice P L.length c]) ob #[.int .i64 k, .int .i64 nd, .int .i64 tt, .int .i64 a, .int .i64 b, .string tx, .slice P L.length c] := QO.putW (U := #[.int .i64 k, .int .i64 nd, .int .i64 tt, .int .i64 a, .int .i64 b, .string tx, .slice P L.length c]) rfl
   have hbo : But ob vx (ac vx ob 0 [.int .i64 k, .int .i64 nd, .int .i64 tt, .int .i64 a, .int .i64 b, .string tx, .slice P L.length c]) := ak [.int .i64 k, .int .i64 nd, .int .i64 tt, .int .i64 a, .int .i64 b, .string tx, .slice P L.length c] vx vx 0 (But.refl ob vx)
   replace R := R.but hbo (by omega)
   replace OW := ay OW hbo HNE.out
   replace C := aj [.int .i64 k, .int .i64 nd, .int .i64 tt, .int .i64 a, .int .i64 b, .string tx, .slice P L.length c] (show ob ≠ p by omega) (show B ≤ ob by omega) 0 C
   replace N := N.trans (ao (v := vx) [.int .i64 k, .int .i64 nd, .int .i64 tt, .int .i64 a, .int .i64 b, .string tx, .slice P L.length c] (show w.heap.size ≤ ob by omega) 0)
   have HNR : Hid (∀ q, (Value.slice P L.length c).ownBlock = some q → q ≠ w.heap.size) := HNR0.out
   clear QO hbo hsz
   have QO := Q1
   clear Q1
   generalize ac vx ob 0 [.int .i64 k, .int .i64 nd, .int .i64 tt, .int .i64 a, .int .i64 b, .string tx, .slice P L.length c] = v1 at *
   go_wp2_with fail
   refine (aB B p 8 v1 C).mono ?_
   rintro e v2 ⟨bo, rfl, cc, bb⟩
   replace R := R.but bb (by omega)
   replace QO := QO.but bb (by omega)
   replace OW := br OW bb (by omega)
   replace N := N.trans (bb.belP (Nat.le_of_lt hv0))
   have hv2 : w.heap.size < v2.heap.size := Nat.lt_of_lt_of_le hv0 bb.2.2.2.1
   clear C bb hv0
   have C := cc
   clear cc
   cases bo
   ·skip
    have hL := QO.load (P := Tryz.prog) (n := 7) rfl
    have hst := Bo.store (P := Tryz.prog) (b := 0) [.int .i64 k, .int .i64 nd, .int .i64 tt, .int .i64 a, .int .i64 b, .string tx, .slice P L.length c] 0 0 R rfl (by simp) (by intro u hu; simp only [List.mem_cons, List.not_mem_nil, or_false] at hu; rcases hu with h | h | h | h | h | h | h <;> (subst h; rfl))
    have R9 : Bo (ac v2 w.heap.size 0 [.int .i64 k, .int .i64 nd, .int .i64 tt, .int .i64 a, .int .i64 b, .string tx, .slice P L.length c]) w.heap.size #[.int .i64 k, .int .i64 nd, .int .i64 tt, .int .i64 a, .int .i64 b, .string tx, .slice P L.length c] := R.putW (U := #[.int .i64 k, .int .i64 nd, .int .i64 tt, .int .i64 a, .int .i64 b, .string tx, .slice P L.length c]) rfl
    have OW9 := ay OW (ak [.int .i64 k, .int .i64 nd, .int .i64 tt, .int .i64 a, .int .i64 b, .string tx, .slice P L.length c] v2 v2 0 (But.refl w.heap.size v2)) HNR.out
    have C9 := aj [.int .i64 k, .int .i64 nd, .int .i64 tt, .int .i64 a, .int .i64 b, .string tx, .slice P L.length c] (show w.heap.size ≠ p by omega) (show B ≤ w.heap.size by omega) 0 C
    have N9 : aW w.heap.size p w (ac v2 w.heap.size 0 [.int .i64 k, .int .i64 nd, .int .i64 tt, .int .i64 a, .int .i64 b, .string tx, .slice P L.length c]) := N.trans (ao [.int .i64 k, .int .i64 nd, .int .i64 tt, .int .i64 a, .int .i64 b, .string tx, .slice P L.length c] (Nat.le_refl _) 0)
    have HW : Hid (_ ∧ _ ∧ _ ∧ _) := ⟨R9, OW9, C9, N9⟩
    clear R9 OW9 C9 N9 R OW C N QO HNR
    go_wp2_with (first | rw [hL] | rw [hst])
    (try go_simp)
    (try go_wp2_with fail)
    clear hL hst
    generalize ac v2 w.heap.size 0 [.int .i64 k, .int .i64 nd, .int .i64 tt, .int .i64 a, .int .i64 b, .string tx, .slice P L.length c] = vz at *
    have hL := HW.out.1.load (P := Tryz.prog) (n := 7) rfl
    (try simp only [Exit.inBlock, Exit.then])
    exact bodyPost_ret (v := .agg #[.int .i64 k, .int .i64 nd, .int .i64 tt, .int .i64 a, .int .i64 b, .string tx, .slice P L.length c]) (by simp [results, Tryz.results19, go_sem]; rw [hL]; rfl) rfl (by unfold cN; exact ⟨k, nd, tt, a, b, tx, P, L, c, rfl, hx, by omega, HW.out.2.1, HW.out.2.2.1, HW.out.2.2.2⟩)
   ·have hL := QO.load (P := Tryz.prog) (n := 7) rfl
    have CS := aU B p w.heap.size k nd tt a b tx P L c v2 C (by omega) (by omega) hx (by omega) OW _ rfl
    go_wp2_with (rw [hL])
    (try go_simp)
    (try go_wp2_with fail)
    refine CS.mono ?_
    rintro e v3 hop
    obtain ⟨k2, nd2, tt2, a2, b2, tx2, P2, L2, c2, rfl, hx2, hm2, ho2, hc2, hb2, hk2, hq2⟩ := hop
    clear CS hL
    have hno : ∀ q, (Value.slice P L.length c).ownBlock = some q → q ≠ ob ∧ q ≠ w.heap.size := fun q hq => ⟨HNE.out q hq, HNR.out q hq⟩
    have R3 : Bo v3 w.heap.size #[.int .i64 0, .int .i64 0, .int .i64 0, .int .i64 0, .int .i64 0, .string ⟨#[]⟩, .slice none 0 0] := R.kp hk2 hb2.2.2.2.1 (by omega) (fun e => (hno _ e.symm).2 rfl)
    have Q3 := QO.kp hk2 hb2.2.2.2.1 (by omega) (fun e => (hno _ e.symm).1 rfl)
    have hq3 : ∀ q, (Value.slice P2 L2.length c2).ownBlock = some q → q ≠ ob ∧ q ≠ w.heap.size := fun q hq => by
     rcases hq2 q hq with e | e
     ·exact hno q e.symm
     ·have := QO.1; exact ⟨by omega, by omega⟩
    replace N := N.trans hb2
    clear R OW C QO HNE HNR hno hk2 hq2
    have hst := Bo.store (P := Tryz.prog) (b := 0) [.int .i64 k2, .int .i64 nd2, .int .i64 tt2, .int .i64 a2, .int .i64 b2, .string tx2, .slice P2 L2.length c2] 0 0 Q3 rfl (by simp) (by intro u hu; simp only [List.mem_cons, List.not_mem_nil, or_false] at hu; rcases hu with h | h | h | h | h | h | h <;> (subst h; rfl))
    have Q4 : Bo (ac v3 ob 0 [.int .i64 k2, .int .i64 nd2, .int .i64 tt2, .int .i64 a2, .int .i64 b2, .string tx2, .slice P2 L2.length c2]) ob #[.int .i64 k2, .int .i64 nd2, .int .i64 tt2, .int .i64 a2, .int .i64 b2, .string tx2, .slice P2 L2.length c2] := Q3.putW (U := #[.int .i64 k2, .int .i64 nd2, .int .i64 tt2, .int .i64 a2, .int .i64 b2, .string tx2, .slice P2 L2.length c2]) rfl
    have hbo : But ob v3 (ac v3 ob 0 [.int .i64 k2, .int .i64 nd2, .int .i64 tt2, .int .i64 a2, .int .i64 b2, .string tx2, .slice P2 L2.length c2]) := ak [.int .i64 k2, .int .i64 nd2, .int .i64 tt2, .int .i64 a2, .int .i64 b2, .string tx2, .slice P2 L2.length c2] v3 v3 0 (But.refl ob v3)
    have R := R3.but hbo (by omega)
    have OW := ay ho2 hbo (fun q hq => (hq3 q hq).1)
    have C := aj [.int .i64 k2, .int .i64 nd2, .int .i64 tt2, .int .i64 a2, .int .i64 b2, .string tx2, .slice P2 L2.length c2] (show ob ≠ p by omega) (show B ≤ ob by omega) 0 hc2
    replace N := N.trans (ao (v := v3) [.int .i64 k2, .int .i64 nd2, .int .i64 tt2, .int .i64 a2, .int .i64 b2, .string tx2, .slice P2 L2.length c2] (show w.heap.size ≤ ob by omega) 0)
    have HNR : Hid (∀ q, (Value.slice P2 L2.length c2).ownBlock = some q → q ≠ w.heap.size) := fun q hq => (hq3 q hq).2
    have QO := Q4
    clear R3 Q3 Q4 hbo ho2 hc2 hb2 hq3
    go_upto_region 4 with (rw [hst])
    clear hst
    generalize ac v3 ob 0 [.int .i64 k2, .int .i64 nd2, .int .i64 tt2, .int .i64 a2, .int .i64 b2, .string tx2, .slice P2 L2.length c2] = v4 at *
    have hL := QO.load (P := Tryz.prog) (n := 7) rfl
    have hst := Bo.store (P := Tryz.prog) (b := 0) [.int .i64 k2, .int .i64 nd2, .int .i64 tt2, .int .i64 a2, .int .i64 b2, .string tx2, .slice P2 L2.length c2] 0 0 R rfl (by simp) (by intro u hu; simp only [List.mem_cons, List.not_mem_nil, or_false] at hu; rcases hu with h | h | h | h | h | h | h <;> (subst h; rfl))
    have R9 : Bo (ac v4 w.heap.size 0 [.int .i64 k2, .int .i64 nd2, .int .i64 tt2, .int .i64 a2, .int .i64 b2, .string tx2, .slice P2 L2.length c2]) w.heap.size #[.int .i64 k2, .int .i64 nd2, .int .i64 tt2, .int .i64 a2, .int .i64 b2, .string tx2, .slice P2 L2.length c2] := R.putW (U := #[.int .i64 k2, .int .i64 nd2, .int .i64 tt2, .int .i64 a2, .int .i64 b2, .string tx2, .slice P2 L2.length c2]) rfl
    have OW9 := ay OW (ak [.int .i64 k2, .int .i64 nd2, .int .i64 tt2, .int .i64 a2, .int .i64 b2, .string tx2, .slice P2 L2.length c2] v4 v4 0 (But.refl w.heap.size v4)) HNR.out
    have C9 := aj [.int .i64 k2, .int .i64 nd2, .int .i64 tt2, .int .i64 a2, .int .i64 b2, .string tx2, .slice P2 L2.length c2] (show w.heap.size ≠ p by omega) (show B ≤ w.heap.size by omega) 0 C
    have N9 : aW w.heap.size p w (ac v4 w.heap.size 0 [.int .i64 k2, .int .i64 nd2, .int .i64 tt2, .int .i64 a2, .int .i64 b2, .string tx2, .slice P2 L2.length c2]) := N.trans (ao [.int .i64 k2, .int .i64 nd2, .int .i64 tt2, .int .i64 a2, .int .i64 b2, .string tx2, .slice P2 L2.length c2] (Nat.le_refl _) 0)
    have HW : Hid (_ ∧ _ ∧ _ ∧ _) := ⟨R9, OW9, C9, N9⟩
    clear R9 OW9 C9 N9 R OW C N QO HNR
    go_wp2_with (first | rw [hL] | rw [hst])
    (try go_simp)
    (try go_wp2_with fail)
    clear hL hst
    generalize ac v4 w.heap.size 0 [.int .i64 k2, .int .i64 nd2, .int .i64 tt2, .int .i64 a2, .int .i64 b2, .string tx2, .slice P2 L2.length c2] = vz at *
    have hL := HW.out.1.load (P := Tryz.prog) (n := 7) rfl
    (try simp only [Exit.inBlock, Exit.then])
    exact bodyPost_ret (v := .agg #[.int .i64 k2, .int .i64 nd2, .int .i64 tt2, .int .i64 a2, .int .i64 b2, .string tx2, .slice P2 L2.length c2]) (by simp [results, Tryz.results19, go_sem]; rw [hL]; rfl) rfl (by unfold cN; exact ⟨k2, nd2, tt2, a2, b2, tx2, P2, L2, c2, rfl, hx2, hm2, HW.out.2.1, HW.out.2.2.1, HW.out.2.2.2⟩)
  ·go_simp
   (try rw [cl vx]); (try go_simp); (have A6 := Below.nw vx (.cells (madeCells #[.bool false] 4) 4)); (have F2 : LiF (vx.alloc (.cells (madeCells #[.bool false] 4) 4)) vx.heap.size := LiF.new vx); (replace C := C.below A6); (replace N := N.trans (au A6 (by omega))); (replace R := R.below A6); (try replace F1 := F1.below A6); (try replace F2 := F2.below A6); (try replace QO := QO.below A6); (have hsz2 : w.heap.size < (vx.alloc (.cells (madeCells #[.bool false] 4) 4)).heap.size := by simp; omega); (have hlb : w.heap.size < vx.heap.size := hsz); (clear A6 hsz); (have hsz := hsz2); (clear hsz2); (generalize vx.alloc (.cells (madeCells #[.bool false] 4) 4) = vx' at *); (generalize vx.heap.size = lb at *); (clear vx); (generalize vx' = vx at *)
   refine hK.out _ _ ?_ (fun hHeld => ?_)
   ·trivial
   clear hK K
   (try simp only [zA])
   refine zQ 1 fun K hK => ?_
   go_simp
   (try rw [cm vx]); (try go_simp); (have A6 := Below.nw vx (.cells (madeCells #[.int .i64 0, .int .i64 0, .int .i64 0, .int .i64 0, .bool false, .int .i64 0, .int .i64 0, .int .i64 0, .int .i64 0, .int .i64 0, .slice none 0 0, .slice none 0 0, .bool false, .int .i64 0, .slice none 0 0, .int .i64 0] 64) 145)); (have F1 : NdF (vx.alloc (.cells (madeCells #[.int .i64 0, .int .i64 0, .int .i64 0, .int .i64 0, .bool false, .int .i64 0, .int .i64 0, .int .i64 0, .int .i64 0, .int .i64 0, .slice none 0 0, .slice none 0 0, .bool false, .int .i64 0, .slice none 0 0, .int .i64 0] 64) 145)) vx.heap.size := NdF.new vx); (replace C := C.below A6); (replace N := N.trans (au A6 (by omega))); (replace R := R.below A6); (try replace F1 := F1.below A6); (try replace F2 := F2.below A6); (try replace QO := QO.below A6); (have hsz2 : w.heap.size < (vx.alloc (.cells (madeCells #[.int .i64 0, .int .i64 0, .int .i64 0, .int .i64 0, .bool false, .int .i64 0, .int .i64 0, .int .i64 0, .int .i64 0, .int .i64 0, .slice none 0 0, .slice none 0 0, .bool false, .int .i64 0, .slice none 0 0, .int .i64 0] 64) 145)).heap.size := by simp; omega); (have hnb : w.heap.size < vx.heap.size := hsz); (clear A6 hsz); (have hsz := hsz2); (clear hsz2); (generalize vx.alloc (.cells (madeCells #[.int .i64 0, .int .i64 0, .int .i64 0, .int .i64 0, .bool false, .int .i64 0, .int .i64 0, .int .i64 0, .int .i64 0, .int .i64 0, .slice none 0 0, .slice none 0 0, .bool false, .int .i64 0, .slice none 0 0, .int .i64 0] 64) 145) = vx' at *); (generalize vx.heap.size = nb at *); (clear vx); (generalize vx' = vx at *)
   refine hK.out _ _ ?_ (fun hHeld => ?_)
   ·trivial
   clear hK K
   (try simp only [zA])
   refine zTk 3 ?_
   refine zQ 4 fun K hK => ?_
   go_simp
   (have QOlt : Hid (ob < vx.heap.size) := QO.1); refine (am B p lb nb vx C ⟨⟨F2.1, by omega, F2.2⟩, F1.1, by omega, F1.2⟩).mono ?_; rintro e vy hop; obtain ⟨k, nd, tt, a, b, tx, P, L, c, rfl, hx, hm, ho, hc, hb, hk, hq⟩ := hop; (have hbb : But p vx vy := hb); (replace R := R.but hbb (by omega)); (try replace QO := QO.but hbb (by omega)); (replace N := N.trans (hbb.belP (by omega))); (have C2 := hc); (clear C); (have C := C2); (clear C2); (have OW := ah ho (show w.heap.size ≤ vx.heap.size by omega)); (have HNE : Hid (∀ q, (Value.slice P L.length c).ownBlock = some q → q ≠ ob) := fun q hqq => by (have q1 := QOlt.out); rcases hq q hqq with e | e; (· cases e); (· omega)); (have hsz2 : w.heap.size < vy.heap.size := Nat.lt_of_lt_of_le hsz hbb.2.2.2.1); (have HNW : Hid (∀ q, (Value.slice P L.length c).ownBlock = some q → q ≠ w.heap.size) := fun q hqq => by rcases hq q hqq with e | e; (· cases e); (· omega)); (clear hsz ho hc hb hk hq hbb F1 F2); (have hsz := hsz2); (clear hsz2); (try clear QOlt); (clear vx); (generalize vy = vx at *)
   (try go_wp2_with fail)
   refine hK.out _ _ ?_ (fun hHeld => ?_)
   ·trivial
   clear hK K
   (try simp only [zA])
   refine zQ 6 fun K hK => ?_
   go_simp
   (have hst := Bo.store (P := Tryz.prog) (b := 0) [.int .i64 k, .int .i64 nd, .int .i64 tt, .int .i64 a, .int .i64 b, .string tx, .slice P L.length c] 0 0 QO rfl (by simp) (by intro u hu; simp only [List.mem_cons, List.not_mem_nil, or_false] at hu; rcases hu with h | h | h | h | h | h | h <;> (subst h; rfl))); (try rw [hst]); (try go_simp)
   refine hK.out _ _ ?_ (fun hHeld => ?_)
   ·trivial
   clear hK K
   (try simp only [zA])
   refine wpAnyH_done (by kernel_rfl) ?_ _
   have hv0 : w.heap.size < (ac vx ob 0 [.int .i64 k, .int .i64 nd, .int .i64 tt, .int .i64 a, .int .i64 b, .string tx, .slice P L.length c]).heap.size := by rw [aR]; exact hsz
   have HNR0 : Hid (∀ q, (Value.slice P L.length c).ownBlock = some q → q ≠ w.heap.size) := HNW.out
   clear hst
   have Q1 : Bo (ac vx ob 0 [.int .i64 k, .int .i64 nd, .int .i64 tt, .int .i64 a, .int .i64 b, .string tx, .slice P L.length c]) ob #[.int .i64 k, .int .i64 nd, .int .i64 tt, .int .i64 a, .int .i64 b, .string tx, .slice P L.length c] := QO.putW (U := #[.int .i64 k, .int .i64 nd, .int .i64 tt, .int .i64 a, .int .i64 b, .string tx, .slice P L.length c]) rfl
   have hbo : But ob vx (ac vx ob 0 [.int .i64 k, .int .i64 nd, .int .i64 tt, .int .i64 a, .int .i64 b, .string tx, .slice P L.length c]) := ak [.int .i64 k, .int .i64 nd, .int .i64 tt, .int .i64 a, .int .i64 b, .string tx, .slice P L.length c] vx vx 0 (But.refl ob vx)
   replace R := R.but hbo (by omega)
   replace OW := ay OW hbo HNE.out
   replace C := aj [.int .i64 k, .int .i64 nd, .int .i64 tt, .int .i64 a, .int .i64 b, .string tx, .slice P L.length c] (show ob ≠ p by omega) (show B ≤ ob by omega) 0 C
   replace N := N.trans (ao (v := vx) [.int .i64 k, .int .i64 nd, .int .i64 tt, .int .i64 a, .int .i64 b, .string tx, .slice P L.length c] (show w.heap.size ≤ ob by omega) 0)
   have HNR : Hid (∀ q, (Value.slice P L.length c).ownBlock = some q → q ≠ w.heap.size) := HNR0.out
   clear QO hbo hsz
   have QO := Q1
   clear Q1
   generalize ac vx ob 0 [.int .i64 k, .int .i64 nd, .int .i64 tt, .int .i64 a, .int .i64 b, .string tx, .slice P L.length c] = v1 at *
   go_wp2_with fail
   refine (aB B p 8 v1 C).mono ?_
   rintro e v2 ⟨bo, rfl, cc, bb⟩
   replace R := R.but bb (by omega)
   replace QO := QO.but bb (by omega)
   replace OW := br OW bb (by omega)
   replace N := N.trans (bb.belP (Nat.le_of_lt hv0))
   have hv2 : w.heap.size < v2.heap.size := Nat.lt_of_lt_of_le hv0 bb.2.2.2.1
   clear C bb hv0
   have C := cc
   clear cc
   cases bo
   ·skip
    have hL := QO.load (P := Tryz.prog) (n := 7) rfl
    have hst := Bo.store (P := Tryz.prog) (b := 0) [.int .i64 k, .int .i64 nd, .int .i64 tt, .int .i64 a, .int .i64 b, .string tx, .slice P L.length c] 0 0 R rfl (by simp) (by intro u hu; simp only [List.mem_cons, List.not_mem_nil, or_false] at hu; rcases hu with h | h | h | h | h | h | h <;> (subst h; rfl))
    have R9 : Bo (ac v2 w.heap.size 0 [.int .i64 k, .int .i64 nd, .int .i64 tt, .int .i64 a, .int .i64 b, .string tx, .slice P L.length c]) w.heap.size #[.int .i64 k, .int .i64 nd, .int .i64 tt, .int .i64 a, .int .i64 b, .string tx, .slice P L.length c] := R.putW (U := #[.int .i64 k, .int .i64 nd, .int .i64 tt, .int .i64 a, .int .i64 b, .string tx, .slice P L.length c]) rfl
    have OW9 := ay OW (ak [.int .i64 k, .int .i64 nd, .int .i64 tt, .int .i64 a, .int .i64 b, .string tx, .slice P L.length c] v2 v2 0 (But.refl w.heap.size v2)) HNR.out
    have C9 := aj [.int .i64 k, .int .i64 nd, .int .i64 tt, .int .i64 a, .int .i64 b, .string tx, .slice P L.length c] (show w.heap.size ≠ p by omega) (show B ≤ w.heap.size by omega) 0 C
    have N9 : aW w.heap.size p w (ac v2 w.heap.size 0 [.int .i64 k, .int .i64 nd, .int .i64 tt, .int .i64 a, .int .i64 b, .string tx, .slice P L.length c]) := N.trans (ao [.int .i64 k, .int .i64 nd, .int .i64 tt, .int .i64 a, .int .i64 b, .string tx, .slice P L.length c] (Nat.le_refl _) 0)
    have HW : Hid (_ ∧ _ ∧ _ ∧ _) := ⟨R9, OW9, C9, N9⟩
    clear R9 OW9 C9 N9 R OW C N QO HNR
    go_wp2_with (first | rw [hL] | rw [hst])
    (try go_simp)
    (try go_wp2_with fail)
    clear hL hst
    generalize ac v2 w.heap.size 0 [.int .i64 k, .int .i64 nd, .int .i64 tt, .int .i64 a, .int .i64 b, .string tx, .slice P L.length c] = vz at *
    have hL := HW.out.1.load (P := Tryz.prog) (n := 7) rfl
    (try simp only [Exit.inBlock, Exit.then])
    exact bodyPost_ret (v := .agg #[.int .i64 k, .int .i64 nd, .int .i64 tt, .int .i64 a, .int .i64 b, .string tx, .slice P L.length c]) (by simp [results, Tryz.results19, go_sem]; rw [hL]; rfl) rfl (by unfold cN; exact ⟨k, nd, tt, a, b, tx, P, L, c, rfl, hx, by omega, HW.out.2.1, HW.out.2.2.1, HW.out.2.2.2⟩)
   ·have hL := QO.load (P := Tryz.prog) (n := 7) rfl
    have CS := aU B p w.heap.size k nd tt a b tx P L c v2 C (by omega) (by omega) hx (by omega) OW _ rfl
    go_wp2_with (rw [hL])
    (try go_simp)
    (try go_wp2_with fail)
    refine CS.mono ?_
    rintro e v3 hop
    obtain ⟨k2, nd2, tt2, a2, b2, tx2, P2, L2, c2, rfl, hx2, hm2, ho2, hc2, hb2, hk2, hq2⟩ := hop
    clear CS hL
    have hno : ∀ q, (Value.slice P L.length c).ownBlock = some q → q ≠ ob ∧ q ≠ w.heap.size := fun q hq => ⟨HNE.out q hq, HNR.out q hq⟩
    have R3 : Bo v3 w.heap.size #[.int .i64 0, .int .i64 0, .int .i64 0, .int .i64 0, .int .i64 0, .string ⟨#[]⟩, .slice none 0 0] := R.kp hk2 hb2.2.2.2.1 (by omega) (fun e => (hno _ e.symm).2 rfl)
    have Q3 := QO.kp hk2 hb2.2.2.2.1 (by omega) (fun e => (hno _ e.symm).1 rfl)
    have hq3 : ∀ q, (Value.slice P2 L2.length c2).ownBlock = some q → q ≠ ob ∧ q ≠ w.heap.size := fun q hq => by
     rcases hq2 q hq with e | e
     ·exact hno q e.symm
     ·have := QO.1; exact ⟨by omega, by omega⟩
    replace N := N.trans hb2
    clear R OW C QO HNE HNR hno hk2 hq2
    have hst := Bo.store (P := Tryz.prog) (b := 0) [.int .i64 k2, .int .i64 nd2, .int .i64 tt2, .int .i64 a2, .int .i64 b2, .string tx2, .slice P2 L2.length c2] 0 0 Q3 rfl (by simp) (by intro u hu; simp only [List.mem_cons, List.not_mem_nil, or_false] at hu; rcases hu with h | h | h | h | h | h | h <;> (subst h; rfl))
    have Q4 : Bo (ac v3 ob 0 [.int .i64 k2, .int .i64 nd2, .int .i64 tt2, .int .i64 a2, .int .i64 b2, .string tx2, .slice P2 L2.length c2]) ob #[.int .i64 k2, .int .i64 nd2, .int .i64 tt2, .int .i64 a2, .int .i64 b2, .string tx2, .slice P2 L2.length c2] := Q3.putW (U := #[.int .i64 k2, .int .i64 nd2, .int .i64 tt2, .int .i64 a2, .int .i64 b2, .string tx2, .slice P2 L2.length c2]) rfl
    have hbo : But ob v3 (ac v3 ob 0 [.int .i64 k2, .int .i64 nd2, .int .i64 tt2, .int .i64 a2, .int .i64 b2, .string tx2, .slice P2 L2.length c2]) := ak [.int .i64 k2, .int .i64 nd2, .int .i64 tt2, .int .i64 a2, .int .i64 b2, .string tx2, .slice P2 L2.length c2] v3 v3 0 (But.refl ob v3)
    have R := R3.but hbo (by omega)
    have OW := ay ho2 hbo (fun q hq => (hq3 q hq).1)
    have C := aj [.int .i64 k2, .int .i64 nd2, .int .i64 tt2, .int .i64 a2, .int .i64 b2, .string tx2, .slice P2 L2.length c2] (show ob ≠ p by omega) (show B ≤ ob by omega) 0 hc2
    replace N := N.trans (ao (v := v3) [.int .i64 k2, .int .i64 nd2, .int .i64 tt2, .int .i64 a2, .int .i64 b2, .string tx2, .slice P2 L2.length c2] (show w.heap.size ≤ ob by omega) 0)
    have HNR : Hid (∀ q, (Value.slice P2 L2.length c2).ownBlock = some q → q ≠ w.heap.size) := fun q hq => (hq3 q hq).2
    have QO := Q4
    clear R3 Q3 Q4 hbo ho2 hc2 hb2 hq3
    go_upto_region 4 with (rw [hst])
    clear hst
    generalize ac v3 ob 0 [.int .i64 k2, .int .i64 nd2, .int .i64 tt2, .int .i64 a2, .int .i64 b2, .string tx2, .slice P2 L2.length c2] = v4 at *
    have hL := QO.load (P := Tryz.prog) (n := 7) rfl
    have hst := Bo.store (P := Tryz.prog) (b := 0) [.int .i64 k2, .int .i64 nd2, .int .i64 tt2, .int .i64 a2, .int .i64 b2, .string tx2, .slice P2 L2.length c2] 0 0 R rfl (by simp) (by intro u hu; simp only [List.mem_cons, List.not_mem_nil, or_false] at hu; rcases hu with h | h | h | h | h | h | h <;> (subst h; rfl))
    have R9 : Bo (ac v4 w.heap.size 0 [.int .i64 k2, .int .i64 nd2, .int .i64 tt2, .int .i64 a2, .int .i64 b2, .string tx2, .slice P2 L2.length c2]) w.heap.size #[.int .i64 k2, .int .i64 nd2, .int .i64 tt2, .int .i64 a2, .int .i64 b2, .string tx2, .slice P2 L2.length c2] := R.putW (U := #[.int .i64 k2, .int .i64 nd2, .int .i64 tt2, .int .i64 a2, .int .i64 b2, .string tx2, .slice P2 L2.length c2]) rfl
    have OW9 := ay OW (ak [.int .i64 k2, .int .i64 nd2, .int .i64 tt2, .int .i64 a2, .int .i64 b2, .string tx2, .slice P2 L2.length c2] v4 v4 0 (But.refl w.heap.size v4)) HNR.out
    have C9 := aj [.int .i64 k2, .int .i64 nd2, .int .i64 tt2, .int .i64 a2, .int .i64 b2, .string tx2, .slice P2 L2.length c2] (show w.heap.size ≠ p by omega) (show B ≤ w.heap.size by omega) 0 C
    have N9 : aW w.heap.size p w (ac v4 w.heap.size 0 [.int .i64 k2, .int .i64 nd2, .int .i64 tt2, .int .i64 a2, .int .i64 b2, .string tx2, .slice P2 L2.length c2]) := N.trans (ao [.int .i64 k2, .int .i64 nd2, .int .i64 tt2, .int .i64 a2, .int .i64 b2, .string tx2, .slice P2 L2.length c2] (Nat.le_refl _) 0)
    have HW : Hid (_ ∧ _ ∧ _ ∧ _) := ⟨R9, OW9, C9, N9⟩
    clear R9 OW9 C9 N9 R OW C N QO HNR
    go_wp2_with (first | rw [hL] | rw [hst])
    (try go_simp)
    (try go_wp2_with fail)
    clear hL hst
    generalize ac v4 w.heap.size 0 [.int .i64 k2, .int .i64 nd2, .int .i64 tt2, .int .i64 a2, .int .i64 b2, .string tx2, .slice P2 L2.length c2] = vz at *
    have hL := HW.out.1.load (P := Tryz.prog) (n := 7) rfl
    (try simp only [Exit.inBlock, Exit.then])
    exact bodyPost_ret (v := .agg #[.int .i64 k2, .int .i64 nd2, .int .i64 tt2, .int .i64 a2, .int .i64 b2, .string tx2, .slice P2 L2.length c2]) (by simp [results, Tryz.results19, go_sem]; rw [hL]; rfl) rfl (by unfold cN; exact ⟨k2, nd2, tt2, a2, b2, tx2, P2, L2, c2, rfl, hx2, hm2, HW.out.2.1, HW.out.2.2.1, HW.out.2.2.2⟩)

end Go.Proofs.YtddjiamollfplaaGreatDoor
