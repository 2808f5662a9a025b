/- A forged word drawn where nobody lies and nothing is asked. -/
import Derived.Test.YtddjiamollfplaaGreatDoorMC30
import Derived.Test.YtddjiamollfplaaGreatDoorMC34
import Derived.Test.YtddjiamollfplaaGreatDoorMC37
namespace Go.Proofs.YtddjiamollfplaaGreatDoor
open Go.RowKit
set_option linter.unusedVariables false

def dP (w : World) (p lb nb : Nat) : Prop := (lb < w.heap.size ∧ lb ≠ p ∧ ∀ j, j < 4 → w.cell? ⟨lb, j, none⟩ = some (.bool false)) ∧ nb < w.heap.size ∧ nb ≠ p ∧ ∀ j, j < 4 → w.cell? ⟨nb, j * 16 + 10, none⟩ = some (.slice none 0 0)
def iI (base B p : Nat) (w : World) (e : Ending) (w' : World) : Prop := ∃ (tt : Int) (tx : ByteArray), e = .returned (.agg #[.int .i64 14, .int .i64 0, .int .i64 tt, .int .i64 0, .int .i64 0, .string tx, .slice none 0 0]) ∧ tx.size ≤ 100 ∧ aq w' B p ∧ aW base p w w'
theorem dP.bel {w w' : World} {p lb nb : Nat} (h : dP w p lb nb) (hb : aW w.heap.size p w w') : dP w' p lb nb := by
 obtain ⟨⟨h1, h2, h3⟩, h4, h5, h6⟩ := h
 exact ⟨⟨Nat.lt_of_lt_of_le h1 hb.2.2.2.1, h2, fun j hj => (World.cell?_of_block (w := w) (a := ⟨lb, j, none⟩) (hb.2.2.2.2 lb h1 h2)).trans (h3 j hj)⟩, Nat.lt_of_lt_of_le h4 hb.2.2.2.1, h5, fun j hj => (World.cell?_of_block (w := w) (a := ⟨nb, j * 16 + 10, none⟩) (hb.2.2.2.2 nb h4 h5)).trans (h6 j hj)⟩
theorem gH {w : World} {a : Option Addr} {n c : Nat} {f : Nat → Int} (hs : de w a n f) : ∃ s : ByteArray, s.size = n ∧ (convert 22 9 (.slice a n c)).run Tryz.prog w = .ok (.string s) w := by
 rcases hs with h0 | ⟨b, off, rfl, hb⟩
 ·subst h0
  cases a with
  | none => exact ⟨ByteArray.empty, rfl, run_convert_bytes_nil w 22 5 Tryz.underlying22 Tryz.underlying5 _ _ 9 Tryz.underlying9⟩
  | some ad =>
   have hl : (loadCells ad 0).run Tryz.prog w = .ok (([] : List Int).map (Value.int .u8)).toArray w := run_loadCells_list (P := Tryz.prog) w ad [] (fun j v hj => by cases hj)
   refine ⟨ByteArray.empty, rfl, ?_⟩
   rw [run_convert_bytes_string w 22 9 5 _ 0 c Tryz.underlying22 Tryz.underlying5 Tryz.underlying9, run_bytesToString w ad 0 c [] hl]
   rfl
 ·refine ⟨strOfNums ((List.range n).map f), by rw [strOfNums_size]; simp, run_convert_bytes_arg w 22 5 Tryz.underlying22 Tryz.underlying5 b off n c _ (by simp) (fun i hi => ?_) 9 Tryz.underlying9⟩
  rw [hb.2 i hi, List.getD_eq_getElem?_getD, List.getElem?_map, List.getElem?_range hi]
  rfl
attribute [-go_sem] loadCells storeCells in
set_option maxRecDepth 100000 in
set_option maxHeartbeats 16000000 in
theorem dK (B p lb nb tn : Nat) (w : World) (hcur : aq w B p) (hF : dP w p lb nb) (hto : tn < 4) :
 Calls Tryz.prog 78 #[.pointer (some ⟨p, 0, none⟩), .agg #[.int .i64 0, .int .i64 0, .int .i64 0, .int .i64 0, .int .i64 0, .int .i64 0, .int .i64 0, .int .i64 0, .int .i64 0, .int .i64 0, .slice none 0 0, .slice (some ⟨lb, 0, none⟩) 4 4, .int .i64 0, .slice none 0 0, .slice (some ⟨nb, 0, none⟩) 4 4, .int .i64 0, .slice none 0 0, .slice none 0 0], .int .i64 (tn : Int)] w (iI w.heap.size B p w) := by
 have A1 := Below.nw w (.cells #[.int .i64 0, .int .i64 0, .int .i64 0, .int .i64 0, .int .i64 0, .int .i64 0, .int .i64 0, .int .i64 0, .int .i64 0, .int .i64 0, .slice none 0 0, .slice (some ⟨lb, 0, none⟩) 4 4, .int .i64 0, .slice none 0 0, .slice (some ⟨nb, 0, none⟩) 4 4, .int .i64 0, .slice none 0 0, .slice none 0 0] 103)
 have QW := Bo.new w #[.int .i64 0, .int .i64 0, .int .i64 0, .int .i64 0, .int .i64 0, .int .i64 0, .int .i64 0, .int .i64 0, .int .i64 0, .int .i64 0, .slice none 0 0, .slice (some ⟨lb, 0, none⟩) 4 4, .int .i64 0, .slice none 0 0, .slice (some ⟨nb, 0, none⟩) 4 4, .int .i64 0, .slice none 0 0, .slice none 0 0] 103
 have hwb : (w.alloc (.cells #[.int .i64 0, .int .i64 0, .int .i64 0, .int .i64 0, .int .i64 0, .int .i64 0, .int .i64 0, .int .i64 0, .int .i64 0, .int .i64 0, .slice none 0 0, .slice (some ⟨lb, 0, none⟩) 4 4, .int .i64 0, .slice none 0 0, .slice (some ⟨nb, 0, none⟩) 4 4, .int .i64 0, .slice none 0 0, .slice none 0 0] 103)).heap.size = w.heap.size + 1 := by simp
 have A2 := Below.nw (w.alloc (.cells #[.int .i64 0, .int .i64 0, .int .i64 0, .int .i64 0, .int .i64 0, .int .i64 0, .int .i64 0, .int .i64 0, .int .i64 0, .int .i64 0, .slice none 0 0, .slice (some ⟨lb, 0, none⟩) 4 4, .int .i64 0, .slice none 0 0, .slice (some ⟨nb, 0, none⟩) 4 4, .int .i64 0, .slice none 0 0, .slice none 0 0] 103)) (.cells #[.int .i64 0, .int .i64 0, .int .i64 0, .int .i64 0, .int .i64 0, .string ⟨#[]⟩, .slice none 0 0] 26)
 have R := Bo.new (w.alloc (.cells #[.int .i64 0, .int .i64 0, .int .i64 0, .int .i64 0, .int .i64 0, .int .i64 0, .int .i64 0, .int .i64 0, .int .i64 0, .int .i64 0, .slice none 0 0, .slice (some ⟨lb, 0, none⟩) 4 4, .int .i64 0, .slice none 0 0, .slice (some ⟨nb, 0, none⟩) 4 4, .int .i64 0, .slice none 0 0, .slice none 0 0] 103)) #[.int .i64 0, .int .i64 0, .int .i64 0, .int .i64 0, .int .i64 0, .string ⟨#[]⟩, .slice none 0 0] 26
 rw [hwb] at R
 have hpB := hcur.lt
 have C2 := (hcur.below A1).below A2
 have N2 : aW w.heap.size p w ((w.alloc (.cells #[.int .i64 0, .int .i64 0, .int .i64 0, .int .i64 0, .int .i64 0, .int .i64 0, .int .i64 0, .int .i64 0, .int .i64 0, .int .i64 0, .slice none 0 0, .slice (some ⟨lb, 0, none⟩) 4 4, .int .i64 0, .slice none 0 0, .slice (some ⟨nb, 0, none⟩) 4 4, .int .i64 0, .slice none 0 0, .slice none 0 0] 103)).alloc (.cells #[.int .i64 0, .int .i64 0, .int .i64 0, .int .i64 0, .int .i64 0, .string ⟨#[]⟩, .slice none 0 0] 26)) := (au A1 (Nat.le_refl _)).trans (au A2 (by omega))
 have QW2 := QW.below A2
 have hs2 : w.heap.size + 2 ≤ ((w.alloc (.cells #[.int .i64 0, .int .i64 0, .int .i64 0, .int .i64 0, .int .i64 0, .int .i64 0, .int .i64 0, .int .i64 0, .int .i64 0, .int .i64 0, .slice none 0 0, .slice (some ⟨lb, 0, none⟩) 4 4, .int .i64 0, .slice none 0 0, .slice (some ⟨nb, 0, none⟩) 4 4, .int .i64 0, .slice none 0 0, .slice none 0 0] 103)).alloc (.cells #[.int .i64 0, .int .i64 0, .int .i64 0, .int .i64 0, .int .i64 0, .string ⟨#[]⟩, .slice none 0 0] 26)).heap.size := by simp
 have HF : Hid (dP w p lb nb) := hF
 have HX : Hid (∀ v, aW w.heap.size p w v → dP v p lb nb) := fun v hv => hF.bel hv
 clear A1 A2 hcur hwb hF QW
 have QW := QW2
 clear QW2
 go_enter Tryz.func78, Tryz.ntmps78
 go_upto_region 1 with fail
 generalize (w.alloc (.cells #[.int .i64 0, .int .i64 0, .int .i64 0, .int .i64 0, .int .i64 0, .int .i64 0, .int .i64 0, .int .i64 0, .int .i64 0, .int .i64 0, .slice none 0 0, .slice (some ⟨lb, 0, none⟩) 4 4, .int .i64 0, .slice none 0 0, .slice (some ⟨nb, 0, none⟩) 4 4, .int .i64 0, .slice none 0 0, .slice none 0 0] 103)).alloc (.cells #[.int .i64 0, .int .i64 0, .int .i64 0, .int .i64 0, .int .i64 0, .string ⟨#[]⟩, .slice none 0 0] 26) = v1 at *
 have c11 : v1.cell? ⟨w.heap.size, 11, none⟩ = some (.slice (some ⟨lb, 0, none⟩) 4 4) := QW.cell (i := 11) rfl
 go_wp2_with fail
 go_loopw [7, 8] (fun lr i wr => lr = .int .i64 0 ∧ ∃ k : Nat, k ≤ 4 ∧ i = .int .i64 (k : Int) ∧ v1 = wr) (fun _ i _ => 4 - (intOf i).toNat)
 case atStart => exact ⟨rfl, 0, by decide, rfl, by first | rfl | trivial⟩
 case round =>
  obtain ⟨rfl, k, hk, rfl, rfl⟩ := hrel
  by_cases hk4 : k < 4
  ·have hki : (k : Int) < 4 := by omega
   have cb := (HX.out v1 N2).1.2.2 k hk4
   go_wp2_with fail
   go_roundw
   case rel => exact ⟨rfl, k + 1, by omega, by go_num, by first | rfl | trivial⟩
   case measure => simp [intOf]; omega
  have hki : ¬ (k : Int) < 4 := by omega
  obtain rfl : k = 4 := by omega
  clear hk hk4
  have Q := Bo.new v1 #[.int .i64 0, .int .i64 0, .int .i64 0, .int .i64 0, .int .i64 0, .string ⟨#[]⟩, .slice none 0 0] 26
  have hst : (storeCells ⟨v1.heap.size, 0, none⟩ [.int .i64 14, .int .i64 0, .int .i64 (tn : Int), .int .i64 0, .int .i64 0, .string ⟨#[110, 111]⟩, .slice none 0 0] 0).run Tryz.prog (v1.alloc (.cells #[.int .i64 0, .int .i64 0, .int .i64 0, .int .i64 0, .int .i64 0, .string ⟨#[]⟩, .slice none 0 0] 26)) = .ok () (ac (v1.alloc (.cells #[.int .i64 0, .int .i64 0, .int .i64 0, .int .i64 0, .int .i64 0, .string ⟨#[]⟩, .slice none 0 0] 26)) v1.heap.size 0 [.int .i64 14, .int .i64 0, .int .i64 (tn : Int), .int .i64 0, .int .i64 0, .string ⟨#[110, 111]⟩, .slice none 0 0]) := Bo.store (P := Tryz.prog) (b := 0) [.int .i64 14, .int .i64 0, .int .i64 (tn : Int), .int .i64 0, .int .i64 0, .string ⟨#[110, 111]⟩, .slice none 0 0] 0 0 Q rfl (by simp) (by intro u hu; simp only [List.mem_cons, List.not_mem_nil, or_false] at hu; rcases hu with h | h | h | h | h | h | h <;> (subst h; rfl))
  replace Q : Bo (ac (v1.alloc (.cells #[.int .i64 0, .int .i64 0, .int .i64 0, .int .i64 0, .int .i64 0, .string ⟨#[]⟩, .slice none 0 0] 26)) v1.heap.size 0 [.int .i64 14, .int .i64 0, .int .i64 (tn : Int), .int .i64 0, .int .i64 0, .string ⟨#[110, 111]⟩, .slice none 0 0]) v1.heap.size #[.int .i64 14, .int .i64 0, .int .i64 (tn : Int), .int .i64 0, .int .i64 0, .string ⟨#[110, 111]⟩, .slice none 0 0] := Q.putW (U := #[.int .i64 14, .int .i64 0, .int .i64 (tn : Int), .int .i64 0, .int .i64 0, .string ⟨#[110, 111]⟩, .slice none 0 0]) rfl
  have hb := ai (k := v1.heap.size) [.int .i64 14, .int .i64 0, .int .i64 (tn : Int), .int .i64 0, .int .i64 0, .string ⟨#[110, 111]⟩, .slice none 0 0] v1 _ 0 (Below.nw v1 (.cells #[.int .i64 0, .int .i64 0, .int .i64 0, .int .i64 0, .int .i64 0, .string ⟨#[]⟩, .slice none 0 0] 26)) (Nat.le_refl _)
  have hw1 : w.heap.size ≤ v1.heap.size := by omega
  have T : DrS w.heap.size B p v1.heap.size (w.heap.size + 1) none w (ac (v1.alloc (.cells #[.int .i64 0, .int .i64 0, .int .i64 0, .int .i64 0, .int .i64 0, .string ⟨#[]⟩, .slice none 0 0] 26)) v1.heap.size 0 [.int .i64 14, .int .i64 0, .int .i64 (tn : Int), .int .i64 0, .int .i64 0, .string ⟨#[110, 111]⟩, .slice none 0 0]) #[.int .i64 14, .int .i64 0, .int .i64 (tn : Int), .int .i64 0, .int .i64 0, .string ⟨#[110, 111]⟩, .slice none 0 0] #[.int .i64 0, .int .i64 0, .int .i64 0, .int .i64 0, .int .i64 0, .string ⟨#[]⟩, .slice none 0 0] (.slice none 0 0) [] := ⟨Q, R.below hb, World.ownsRow_nil _ _ _ _, C2.below hb, N2.trans (au hb hw1), ⟨fun q hq => by simp [Value.ownBlock] at hq, fun k hk hp _ => (hb.block k (by omega)).trans (N2.2.2.2.2 k hk hp), fun q hq => by simp [Value.ownBlock] at hq, hw1, by omega, Nat.le_trans hw1 hb.size⟩, hw1, by omega, by omega, hpB.1, hpB.2, Nat.le_trans hw1 hb.size⟩
  replace QW := QW.below hb
  have hobw : v1.heap.size ≠ w.heap.size := by omega
  clear Q R C2 N2 hb hs2 hw1
  have CM := cW 4 2 (ac (v1.alloc (.cells #[.int .i64 0, .int .i64 0, .int .i64 0, .int .i64 0, .int .i64 0, .string ⟨#[]⟩, .slice none 0 0] 26)) v1.heap.size 0 [.int .i64 14, .int .i64 0, .int .i64 (tn : Int), .int .i64 0, .int .i64 0, .string ⟨#[110, 111]⟩, .slice none 0 0])
  rw [show imx 4 2 = 4 from by decide] at CM
  by_cases h0 : tn = 0
  ·have H0 : Hid (tn = 0) := h0
   clear h0
   have c14 := QW.cell (i := 14) (u := .slice (some ⟨nb, 0, none⟩) 4 4) rfl
   go_upto_region 8 with (rw [hst])
   clear hst
   generalize hv2 : ac (v1.alloc (.cells #[.int .i64 0, .int .i64 0, .int .i64 0, .int .i64 0, .int .i64 0, .string ⟨#[]⟩, .slice none 0 0] 26)) v1.heap.size 0 [.int .i64 14, .int .i64 0, .int .i64 (tn : Int), .int .i64 0, .int .i64 0, .string ⟨#[110, 111]⟩, .slice none 0 0] = v2 at *
   clear hv2
   generalize v1.heap.size = ob at *
   have hq : ((tn : Int) == 0) = true := by simp [H0.out]
   go_wp2_with fail
   refine CM.mono ?_
   rintro e v2' ⟨rfl, rfl⟩
   clear CM c14 c11
   have qf : v2.cell? ⟨ob, 2, none⟩ = some (.int .i64 (tn : Int)) := T.1.cell (i := 2) rfl
   have ff : v2.frozen? ⟨ob, 2, none⟩ = false := T.1.2.2 2 (by simp)
   have hst1 := aw (P := Tryz.prog) (v := .int .i64 1) qf ff rfl
   have T5 := T.set 2 (.int .i64 1)
   have QW5 : Bo (v2.setCell ⟨ob, 2, none⟩ (.int .i64 1)) w.heap.size #[.int .i64 0, .int .i64 0, .int .i64 0, .int .i64 0, .int .i64 0, .int .i64 0, .int .i64 0, .int .i64 0, .int .i64 0, .int .i64 0, .slice none 0 0, .slice (some ⟨lb, 0, none⟩) 4 4, .int .i64 0, .slice none 0 0, .slice (some ⟨nb, 0, none⟩) 4 4, .int .i64 0, .slice none 0 0, .slice none 0 0] := fM QW hobw _
   clear T QW qf ff
   have T : DrS w.heap.size B p ob (w.heap.size + 1) none w (v2.setCell ⟨ob, 2, none⟩ (.int .i64 1)) #[.int .i64 14, .int .i64 0, .int .i64 1, .int .i64 0, .int .i64 0, .string ⟨#[110, 111]⟩, .slice none 0 0] #[.int .i64 0, .int .i64 0, .int .i64 0, .int .i64 0, .int .i64 0, .string ⟨#[]⟩, .slice none 0 0] (.slice none 0 0) [] := T5
   have QW := QW5
   clear T5 QW5 hq
   go_upto_region 10 with (rw [hst1])
   clear hst1
   generalize v2.setCell ⟨ob, 2, none⟩ (.int .i64 1) = v3 at *
   have htv4 : (1 : Nat) < 4 := by decide
   have htv : ¬ (4 : Int) ≤ 1 := by omega
   have ca : v3.cell? ⟨nb, 26, none⟩ = some (.slice none 0 0) := (HX.out v3 T.2.2.2.2.1).2.2.2 1 htv4
   have c14 : v3.cell? ⟨w.heap.size, 14, none⟩ = some (.slice (some ⟨nb, 0, none⟩) 4 4) := QW.cell (i := 14) rfl
   have q2 : v3.cell? ⟨ob, 2, none⟩ = some (.int .i64 1) := T.1.cell (i := 2) rfl
   have htv2 : 1 < 4 := by omega
   have htv0 : (0 : Int) ≤ 1 := by omega
   go_wp2_with fail
   go_loopw [11] (fun i wr => i = .int .i64 0 ∧ v3 = wr) (fun _ _ => 0)
   case atStart => exact ⟨rfl, by first | rfl | trivial⟩
   case round =>
    obtain ⟨rfl, rfl⟩ := hrel
    clear ca c14 q2 QW
    go_wp2_with fail
    refine (aB B p 4 v3 T.2.2.2.1).mono ?_
    rintro e v4 ⟨bo, rfl, cc, bb⟩
    replace T := T.call cc bb
    clear cc bb
    cases bo
    ·skip
     go_wp2_with fail
     have hL := T.1.load (P := Tryz.prog) (n := 7) rfl
     have hst := Bo.store (P := Tryz.prog) (b := 0) [.int .i64 14, .int .i64 0, .int .i64 1, .int .i64 0, .int .i64 0, .string ⟨#[110, 111]⟩, .slice none 0 0] 0 0 T.2.1 rfl (by simp) (by intro u hu; simp only [List.mem_cons, List.not_mem_nil, or_false] at hu; rcases hu with h | h | h | h | h | h | h <;> (subst h; rfl))
     have RS := T.result [.int .i64 14, .int .i64 0, .int .i64 1, .int .i64 0, .int .i64 0, .string ⟨#[110, 111]⟩, .slice none 0 0] rfl
     have HW : Hid (_ ∧ _) := RS
     clear RS T
     go_wp2_with (first | rw [hL] | rw [hst])
     (try go_simp)
     (try go_wp2_with fail)
     clear hL hst
     generalize ac v4 (w.heap.size + 1) 0 [.int .i64 14, .int .i64 0, .int .i64 1, .int .i64 0, .int .i64 0, .string ⟨#[110, 111]⟩, .slice none 0 0] = vz at *
     have hL := HW.out.1.load (P := Tryz.prog) (n := 7) rfl
     (try simp only [Exit.inBlock, Exit.then])
     exact bodyPost_ret (v := .agg #[.int .i64 14, .int .i64 0, .int .i64 1, .int .i64 0, .int .i64 0, .string ⟨#[110, 111]⟩, .slice none 0 0]) (by simp [results, Tryz.results78, go_sem]; rw [hL]; rfl) rfl (by unfold iI; exact ⟨1, ⟨#[110, 111]⟩, rfl, (by decide), HW.out.2.2.1, HW.out.2.2.2.1⟩)
    ·go_wp2_with fail
     refine (cL B p v4 T.2.2.2.1).mono ?_
     rintro e v5 ⟨a, n, c, f, rfl, hnc, hcm, hn2, hsb, hf, cc, bb⟩
     replace T := T.call cc bb
     clear cc bb hnc hcm
     obtain ⟨s, hss, hcv⟩ := gH (c := c) hsb
     clear hsb hf
     have g0 := T.1.1
     have qf : v5.cell? ⟨ob, 5, none⟩ = some (.string ⟨#[110, 111]⟩) := T.1.cell (i := 5) rfl
     have ff : v5.frozen? ⟨ob, 5, none⟩ = false := T.1.2.2 5 (by simp)
     have hst1 := aw (P := Tryz.prog) (v := .string s) qf ff rfl
     have T5 := T.set 5 (.string s)
     have HT5 : Hid _ := T5
     clear T T5 qf ff g0
     by_cases h64 : s.size ≤ 64
     ·have hq : ¬ (64 : Int) < (s.size : Int) := by omega
      have T : DrS w.heap.size B p ob (w.heap.size + 1) none w (v5.setCell ⟨ob, 5, none⟩ (.string s)) #[.int .i64 14, .int .i64 0, .int .i64 1, .int .i64 0, .int .i64 0, .string s, .slice none 0 0] #[.int .i64 0, .int .i64 0, .int .i64 0, .int .i64 0, .int .i64 0, .string ⟨#[]⟩, .slice none 0 0] (.slice none 0 0) [] := HT5.out
      have q5 : (v5.setCell ⟨ob, 5, none⟩ (.string s)).cell? ⟨ob, 5, none⟩ = some (.string s) := T.1.cell (i := 5) rfl
      have hx : s.size ≤ 100 := by omega
      clear HT5 h64 hn2 hss
      go_wp2_with (first | rw [hcv] | rw [hst1])
      (try go_simp)
      (try go_wp2_with fail)
      clear hcv hst1
      generalize v5.setCell ⟨ob, 5, none⟩ (.string s) = v6 at *
      (try go_wp2_with fail)
      have hL := T.1.load (P := Tryz.prog) (n := 7) rfl
      have hst := Bo.store (P := Tryz.prog) (b := 0) [.int .i64 14, .int .i64 0, .int .i64 1, .int .i64 0, .int .i64 0, .string s, .slice none 0 0] 0 0 T.2.1 rfl (by simp) (by intro u hu; simp only [List.mem_cons, List.not_mem_nil, or_false] at hu; rcases hu with h | h | h | h | h | h | h <;> (subst h; rfl))
      have RS := T.result [.int .i64 14, .int .i64 0, .int .i64 1, .int .i64 0, .int .i64 0, .string s, .slice none 0 0] rfl
      have HW : Hid (_ ∧ _) := RS
      clear RS T
      go_wp2_with (first | rw [hL] | rw [hst])
      (try go_simp)
      (try go_wp2_with fail)
      clear hL hst
      generalize ac v6 (w.heap.size + 1) 0 [.int .i64 14, .int .i64 0, .int .i64 1, .int .i64 0, .int .i64 0, .string s, .slice none 0 0] = vz at *
      have hL := HW.out.1.load (P := Tryz.prog) (n := 7) rfl
      (try simp only [Exit.inBlock, Exit.then])
      exact bodyPost_ret (v := .agg #[.int .i64 14, .int .i64 0, .int .i64 1, .int .i64 0, .int .i64 0, .string s, .slice none 0 0]) (by simp [results, Tryz.results78, go_sem]; rw [hL]; rfl) rfl (by unfold iI; exact ⟨1, s, rfl, hx, HW.out.2.2.1, HW.out.2.2.2.1⟩)
     ·have hq : (64 : Int) < (s.size : Int) := by omega
      have T : DrS w.heap.size B p ob (w.heap.size + 1) none w (v5.setCell ⟨ob, 5, none⟩ (.string s)) #[.int .i64 14, .int .i64 0, .int .i64 1, .int .i64 0, .int .i64 0, .string s, .slice none 0 0] #[.int .i64 0, .int .i64 0, .int .i64 0, .int .i64 0, .int .i64 0, .string ⟨#[]⟩, .slice none 0 0] (.slice none 0 0) [] := HT5.out
      have q5 : (v5.setCell ⟨ob, 5, none⟩ (.string s)).cell? ⟨ob, 5, none⟩ = some (.string s) := T.1.cell (i := 5) rfl
      have f5 : (v5.setCell ⟨ob, 5, none⟩ (.string s)).frozen? ⟨ob, 5, none⟩ = false := T.1.2.2 5 (by simp)
      have hst2 := aw (P := Tryz.prog) (v := .string ⟨#[]⟩) q5 f5 rfl
      have T6 := T.set 5 (.string ⟨#[]⟩)
      have HT6 : Hid _ := T6
      clear HT5 h64 hn2 hss T T6 f5
      go_wp2_with (first | rw [hcv] | rw [hst1] | rw [hst2])
      (try go_simp)
      (try go_wp2_with (rw [hst2]))
      clear hcv hst1 hst2 q5
      have T : DrS w.heap.size B p ob (w.heap.size + 1) none w ((v5.setCell ⟨ob, 5, none⟩ (.string s)).setCell ⟨ob, 5, none⟩ (.string ⟨#[]⟩)) #[.int .i64 14, .int .i64 0, .int .i64 1, .int .i64 0, .int .i64 0, .string ⟨#[]⟩, .slice none 0 0] #[.int .i64 0, .int .i64 0, .int .i64 0, .int .i64 0, .int .i64 0, .string ⟨#[]⟩, .slice none 0 0] (.slice none 0 0) [] := HT6.out
      clear HT6
      generalize (v5.setCell ⟨ob, 5, none⟩ (.string s)).setCell ⟨ob, 5, none⟩ (.string ⟨#[]⟩) = v6 at *
      (try go_wp2_with fail)
      have hL := T.1.load (P := Tryz.prog) (n := 7) rfl
      have hst := Bo.store (P := Tryz.prog) (b := 0) [.int .i64 14, .int .i64 0, .int .i64 1, .int .i64 0, .int .i64 0, .string ⟨#[]⟩, .slice none 0 0] 0 0 T.2.1 rfl (by simp) (by intro u hu; simp only [List.mem_cons, List.not_mem_nil, or_false] at hu; rcases hu with h | h | h | h | h | h | h <;> (subst h; rfl))
      have RS := T.result [.int .i64 14, .int .i64 0, .int .i64 1, .int .i64 0, .int .i64 0, .string ⟨#[]⟩, .slice none 0 0] rfl
      have HW : Hid (_ ∧ _) := RS
      clear RS T
      go_wp2_with (first | rw [hL] | rw [hst])
      (try go_simp)
      (try go_wp2_with fail)
      clear hL hst
      generalize ac v6 (w.heap.size + 1) 0 [.int .i64 14, .int .i64 0, .int .i64 1, .int .i64 0, .int .i64 0, .string ⟨#[]⟩, .slice none 0 0] = vz at *
      have hL := HW.out.1.load (P := Tryz.prog) (n := 7) rfl
      (try simp only [Exit.inBlock, Exit.then])
      exact bodyPost_ret (v := .agg #[.int .i64 14, .int .i64 0, .int .i64 1, .int .i64 0, .int .i64 0, .string ⟨#[]⟩, .slice none 0 0]) (by simp [results, Tryz.results78, go_sem]; rw [hL]; rfl) rfl (by unfold iI; exact ⟨1, ⟨#[]⟩, rfl, (by decide), HW.out.2.2.1, HW.out.2.2.2.1⟩)
  ·have hq : ((tn : Int) == 0) = false := by simp; omega
   clear CM h0
   go_upto_region 8 with (rw [hst])
   clear hst c11
   generalize hv2 : ac (v1.alloc (.cells #[.int .i64 0, .int .i64 0, .int .i64 0, .int .i64 0, .int .i64 0, .string ⟨#[]⟩, .slice none 0 0] 26)) v1.heap.size 0 [.int .i64 14, .int .i64 0, .int .i64 (tn : Int), .int .i64 0, .int .i64 0, .string ⟨#[110, 111]⟩, .slice none 0 0] = v3 at *
   clear hv2
   generalize v1.heap.size = ob at *
   have htv4 := hto
   have htv : ¬ (4 : Int) ≤ (tn : Int) := by omega
   have ca : v3.cell? ⟨nb, tn * 16 + 10, none⟩ = some (.slice none 0 0) := (HX.out v3 T.2.2.2.2.1).2.2.2 tn htv4
   have c14 : v3.cell? ⟨w.heap.size, 14, none⟩ = some (.slice (some ⟨nb, 0, none⟩) 4 4) := QW.cell (i := 14) rfl
   have q2 : v3.cell? ⟨ob, 2, none⟩ = some (.int .i64 (tn : Int)) := T.1.cell (i := 2) rfl
   have htv2 : (tn : Int) < 4 := by omega
   have htv0 : (0 : Int) ≤ (tn : Int) := by omega
   go_wp2_with fail
   go_loopw [11] (fun i wr => i = .int .i64 0 ∧ v3 = wr) (fun _ _ => 0)
   case atStart => exact ⟨rfl, by first | rfl | trivial⟩
   case round =>
    obtain ⟨rfl, rfl⟩ := hrel
    clear ca c14 q2 QW
    go_wp2_with fail
    refine (aB B p 4 v3 T.2.2.2.1).mono ?_
    rintro e v4 ⟨bo, rfl, cc, bb⟩
    replace T := T.call cc bb
    clear cc bb
    cases bo
    ·skip
     go_wp2_with fail
     have hL := T.1.load (P := Tryz.prog) (n := 7) rfl
     have hst := Bo.store (P := Tryz.prog) (b := 0) [.int .i64 14, .int .i64 0, .int .i64 (tn : Int), .int .i64 0, .int .i64 0, .string ⟨#[110, 111]⟩, .slice none 0 0] 0 0 T.2.1 rfl (by simp) (by intro u hu; simp only [List.mem_cons, List.not_mem_nil, or_false] at hu; rcases hu with h | h | h | h | h | h | h <;> (subst h; rfl))
     have RS := T.result [.int .i64 14, .int .i64 0, .int .i64 (tn : Int), .int .i64 0, .int .i64 0, .string ⟨#[110, 111]⟩, .slice none 0 0] rfl
     have HW : Hid (_ ∧ _) := RS
     clear RS T
     go_wp2_with (first | rw [hL] | rw [hst])
     (try go_simp)
     (try go_wp2_with fail)
     clear hL hst
     generalize ac v4 (w.heap.size + 1) 0 [.int .i64 14, .int .i64 0, .int .i64 (tn : Int), .int .i64 0, .int .i64 0, .string ⟨#[110, 111]⟩, .slice none 0 0] = vz at *
     have hL := HW.out.1.load (P := Tryz.prog) (n := 7) rfl
     (try simp only [Exit.inBlock, Exit.then])
     exact bodyPost_ret (v := .agg #[.int .i64 14, .int .i64 0, .int .i64 (tn : Int), .int .i64 0, .int .i64 0, .string ⟨#[110, 111]⟩, .slice none 0 0]) (by simp [results, Tryz.results78, go_sem]; rw [hL]; rfl) rfl (by unfold iI; exact ⟨(tn : Int), ⟨#[110, 111]⟩, rfl, (by decide), HW.out.2.2.1, HW.out.2.2.2.1⟩)
    ·go_wp2_with fail
     refine (cL B p v4 T.2.2.2.1).mono ?_
     rintro e v5 ⟨a, n, c, f, rfl, hnc, hcm, hn2, hsb, hf, cc, bb⟩
     replace T := T.call cc bb
     clear cc bb hnc hcm
     obtain ⟨s, hss, hcv⟩ := gH (c := c) hsb
     clear hsb hf
     have g0 := T.1.1
     have qf : v5.cell? ⟨ob, 5, none⟩ = some (.string ⟨#[110, 111]⟩) := T.1.cell (i := 5) rfl
     have ff : v5.frozen? ⟨ob, 5, none⟩ = false := T.1.2.2 5 (by simp)
     have hst1 := aw (P := Tryz.prog) (v := .string s) qf ff rfl
     have T5 := T.set 5 (.string s)
     have HT5 : Hid _ := T5
     clear T T5 qf ff g0
     by_cases h64 : s.size ≤ 64
     ·have hq : ¬ (64 : Int) < (s.size : Int) := by omega
      have T : DrS w.heap.size B p ob (w.heap.size + 1) none w (v5.setCell ⟨ob, 5, none⟩ (.string s)) #[.int .i64 14, .int .i64 0, .int .i64 (tn : Int), .int .i64 0, .int .i64 0, .string s, .slice none 0 0] #[.int .i64 0, .int .i64 0, .int .i64 0, .int .i64 0, .int .i64 0, .string ⟨#[]⟩, .slice none 0 0] (.slice none 0 0) [] := HT5.out
      have q5 : (v5.setCell ⟨ob, 5, none⟩ (.string s)).cell? ⟨ob, 5, none⟩ = some (.string s) := T.1.cell (i := 5) rfl
      have hx : s.size ≤ 100 := by omega
      clear HT5 h64 hn2 hss
      go_wp2_with (first | rw [hcv] | rw [hst1])
      (try go_simp)
      (try go_wp2_with fail)
      clear hcv hst1
      generalize v5.setCell ⟨ob, 5, none⟩ (.string s) = v6 at *
      (try go_wp2_with fail)
      have hL := T.1.load (P := Tryz.prog) (n := 7) rfl
      have hst := Bo.store (P := Tryz.prog) (b := 0) [.int .i64 14, .int .i64 0, .int .i64 (tn : Int), .int .i64 0, .int .i64 0, .string s, .slice none 0 0] 0 0 T.2.1 rfl (by simp) (by intro u hu; simp only [List.mem_cons, List.not_mem_nil, or_false] at hu; rcases hu with h | h | h | h | h | h | h <;> (subst h; rfl))
      have RS := T.result [.int .i64 14, .int .i64 0, .int .i64 (tn : Int), .int .i64 0, .int .i64 0, .string s, .slice none 0 0] rfl
      have HW : Hid (_ ∧ _) := RS
      clear RS T
      go_wp2_with (first | rw [hL] | rw [hst])
      (try go_simp)
      (try go_wp2_with fail)
      clear hL hst
      generalize ac v6 (w.heap.size + 1) 0 [.int .i64 14, .int .i64 0, .int .i64 (tn : Int), .int .i64 0, .int .i64 0, .string s, .slice none 0 0] = vz at *
      have hL := HW.out.1.load (P := Tryz.prog) (n := 7) rfl
      (try simp only [Exit.inBlock, Exit.then])
      exact bodyPost_ret (v := .agg #[.int .i64 14, .int .i64 0, .int .i64 (tn : Int), .int .i64 0, .int .i64 0, .string s, .slice none 0 0]) (by simp [results, Tryz.results78, go_sem]; rw [hL]; rfl) rfl (by unfold iI; exact ⟨(tn : Int), s, rfl, hx, HW.out.2.2.1, HW.out.2.2.2.1⟩)
     ·have hq : (64 : Int) < (s.size : Int) := by omega
      have T : DrS w.heap.size B p ob (w.heap.size + 1) none w (v5.setCell ⟨ob, 5, none⟩ (.string s)) #[.int .i64 14, .int .i64 0, .int .i64 (tn : Int), .int .i64 0, .int .i64 0, .string s, .slice none 0 0] #[.int .i64 0, .int .i64 0, .int .i64 0, .int .i64 0, .int .i64 0, .string ⟨#[]⟩, .slice none 0 0] (.slice none 0 0) [] := HT5.out
      have q5 : (v5.setCell ⟨ob, 5, none⟩ (.string s)).cell? ⟨ob, 5, none⟩ = some (.string s) := T.1.cell (i := 5) rfl
      have f5 : (v5.setCell ⟨ob, 5, none⟩ (.string s)).frozen? ⟨ob, 5, none⟩ = false := T.1.2.2 5 (by simp)
      have hst2 := aw (P := Tryz.prog) (v := .string ⟨#[]⟩) q5 f5 rfl
      have T6 := T.set 5 (.string ⟨#[]⟩)
      have HT6 : Hid _ := T6
      clear HT5 h64 hn2 hss T T6 f5
      go_wp2_with (first | rw [hcv] | rw [hst1] | rw [hst2])
      (try go_simp)
      (try go_wp2_with (rw [hst2]))
      clear hcv hst1 hst2 q5
      have T : DrS w.heap.size B p ob (w.heap.size + 1) none w ((v5.setCell ⟨ob, 5, none⟩ (.string s)).setCell ⟨ob, 5, none⟩ (.string ⟨#[]⟩)) #[.int .i64 14, .int .i64 0, .int .i64 (tn : Int), .int .i64 0, .int .i64 0, .string ⟨#[]⟩, .slice none 0 0] #[.int .i64 0, .int .i64 0, .int .i64 0, .int .i64 0, .int .i64 0, .string ⟨#[]⟩, .slice none 0 0] (.slice none 0 0) [] := HT6.out
      clear HT6
      generalize (v5.setCell ⟨ob, 5, none⟩ (.string s)).setCell ⟨ob, 5, none⟩ (.string ⟨#[]⟩) = v6 at *
      (try go_wp2_with fail)
      have hL := T.1.load (P := Tryz.prog) (n := 7) rfl
      have hst := Bo.store (P := Tryz.prog) (b := 0) [.int .i64 14, .int .i64 0, .int .i64 (tn : Int), .int .i64 0, .int .i64 0, .string ⟨#[]⟩, .slice none 0 0] 0 0 T.2.1 rfl (by simp) (by intro u hu; simp only [List.mem_cons, List.not_mem_nil, or_false] at hu; rcases hu with h | h | h | h | h | h | h <;> (subst h; rfl))
      have RS := T.result [.int .i64 14, .int .i64 0, .int .i64 (tn : Int), .int .i64 0, .int .i64 0, .string ⟨#[]⟩, .slice none 0 0] rfl
      have HW : Hid (_ ∧ _) := RS
      clear RS T
      go_wp2_with (first | rw [hL] | rw [hst])
      (try go_simp)
      (try go_wp2_with fail)
      clear hL hst
      generalize ac v6 (w.heap.size + 1) 0 [.int .i64 14, .int .i64 0, .int .i64 (tn : Int), .int .i64 0, .int .i64 0, .string ⟨#[]⟩, .slice none 0 0] = vz at *
      have hL := HW.out.1.load (P := Tryz.prog) (n := 7) rfl
      (try simp only [Exit.inBlock, Exit.then])
      exact bodyPost_ret (v := .agg #[.int .i64 14, .int .i64 0, .int .i64 (tn : Int), .int .i64 0, .int .i64 0, .string ⟨#[]⟩, .slice none 0 0]) (by simp [results, Tryz.results78, go_sem]; rw [hL]; rfl) rfl (by unfold iI; exact ⟨(tn : Int), ⟨#[]⟩, rfl, (by decide), HW.out.2.2.1, HW.out.2.2.2.1⟩)

end Go.Proofs.YtddjiamollfplaaGreatDoor
