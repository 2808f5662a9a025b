/- The fields of a pass; the words of fields (the program). -/
import Derived.Laws.Externs
import Derived.Lib.Bytealg
import Derived.Laws.MakeOwn
import Derived.Test.YtddjiamollfplaaGreatDoorMC17
namespace Go.Proofs.YtddjiamollfplaaGreatDoor
open Go.RowKit
set_option linter.unusedVariables false
theorem cE {w : World} {base : Nat} {v : Value} {L : List Addr} (h : w.ownsRow base 113 1 v L.length (ptR L)) :
 ∃ a cap, v = .slice a L.length cap ∧ ∀ (j : Nat) x, L[j]? = some x → ∃ g, a = some ⟨g, 0, none⟩ ∧ g < w.heap.size ∧ w.cell? ⟨g, 0 + j, none⟩ = some (.pointer (some x)) := by
 rcases h.2 with ⟨hv, h0⟩ | ⟨g, cap, cur, hv, h1, h2, h3, h4, h5, h6⟩
 ·exact ⟨none, 0, by rw [h0]; exact hv, fun j x hx => absurd (List.getElem?_eq_some_iff.1 hx).1 (by omega)⟩
 ·refine ⟨some ⟨g, 0, none⟩, cap, hv, fun j x hx => ⟨g, rfl, (Array.getElem?_eq_some_iff.1 h2).1, ?_⟩⟩
  have hj : j < L.length := (List.getElem?_eq_some_iff.1 hx).1
  subst hv
  rw [Nat.zero_add, World.ownsRow.cellAt h j (by omega), ptR, List.getElem?_map, hx]
  rfl
attribute [-go_sem] loadCells storeCells in
set_option maxRecDepth 100000 in
set_option maxHeartbeats 16000000 in
theorem eB (ob : Nat) (k nd tt a b : Int) (tx : ByteArray) (p : Option Addr) (n c : Nat) (w : World) (hO : Bo w ob #[.int .i64 k, .int .i64 nd, .int .i64 tt, .int .i64 a, .int .i64 b, .string tx, .slice p n c]) (hp : (p = none ∧ n = 0) ∨ ∃ b off, p = some ⟨b, off, none⟩) (hn : n ≤ 8) :
 Calls Tryz.prog 56 #[.pointer (some ⟨ob, 0, none⟩)] w fun e w' => ∃ u, e = .returned (.agg #[u, .pointer none]) ∧ w'.ownsRow w.heap.size 113 1 u (psP ob p n).length (ptR (psP ob p n)) ∧ Below w.heap.size w w' := by
 have B := Below.nw w (.cells #[.slice none 0 0, .pointer none] 50)
 have R := Bo.new w #[.slice none 0 0, .pointer none] 50
 have HO : Hid (Bo w ob #[.int .i64 k, .int .i64 nd, .int .i64 tt, .int .i64 a, .int .i64 b, .string tx, .slice p n c]) := hO
 have hL3 := bu ob
 clear hO
 go_enter Tryz.func56, Tryz.ntmps56
 go_upto_region 1 with fail
 generalize w.alloc (.cells #[.slice none 0 0, .pointer none] 50) = v0 at *
 have O : (v0.alloc (.cells #[.pointer (some ⟨ob, 3, none⟩)] 113)).ownsRow v0.heap.size 113 1 (.slice (some ⟨v0.heap.size, 0, none⟩) 1 1) 1 (ptR [⟨ob, 3, none⟩]) := bW v0 [⟨ob, 3, none⟩] (by show (1 : Nat) ≤ 64; omega)
 have hb := Below.nw v0 (.cells #[.pointer (some ⟨ob, 3, none⟩)] 113)
 go_upto_region 2 with fail
 have O1 : (v0.alloc (.cells #[.pointer (some ⟨ob, 3, none⟩)] 113)).ownsRow (w.heap.size + 1) 113 1 (.slice (some ⟨v0.heap.size, 0, none⟩) 1 1) (psL ob ⟨0, 0, none⟩ 0).length (ptR (psL ob ⟨0, 0, none⟩ 0)) := ah O R.1
 have hlo : w.heap.size + 1 ≤ (v0.alloc (.cells #[.pointer (some ⟨ob, 3, none⟩)] 113)).heap.size := Nat.le_trans R.1 hb.size
 replace B := B.trans (hb.mono B.size)
 replace R := R.below hb
 clear hb O
 generalize v0.alloc (.cells #[.pointer (some ⟨ob, 3, none⟩)] 113) = v1 at *
 generalize v0.heap.size = q at *
 have c6 : v1.cell? ⟨ob, 6, none⟩ = some (.slice p n c) := (HO.out.below B).cell rfl
 go_wp2_with fail
 clear c6
 rcases hp with ⟨rfl, rfl⟩ | ⟨b, off, rfl⟩
 ·go_loopw [3, 14] (fun r i wr => ∃ j : Nat, j ≤ 0 ∧ i = .int .i64 (j : Int) ∧ wr.ownsRow (w.heap.size + 1) 113 1 r (psL ob ⟨0, 0, none⟩ 0).length (ptR (psL ob ⟨0, 0, none⟩ 0)) ∧ Bo wr w.heap.size #[.slice none 0 0, .pointer none] ∧ Below w.heap.size w wr ∧ w.heap.size + 1 ≤ wr.heap.size) (fun _ _ _ => 0)
  case atStart => exact ⟨0, Nat.zero_le _, rfl, O1, R, B, hlo⟩
  case round =>
   clear O1 R B hlo
   obtain ⟨j, hj, rfl, O, R, B, hlo⟩ := hrel
   have hj0 : j = 0 := by omega
   subst hj0
   have hli : ¬ (((0 : Nat) : Int)) < ((0 : Nat) : Int) := by omega
   have hli2 : ¬ (0 : Int) < (0 : Int) := by omega
   obtain ⟨pa, cp, hv, -⟩ := cE O
   rw [show (psL ob ⟨0, 0, none⟩ 0).length = 1 from rfl] at hv
   subst hv
   have hst : (storeCells ⟨w.heap.size, 0, none⟩ [.slice pa 1 cp, .pointer none] 0).run Tryz.prog wr = .ok () (ac wr w.heap.size 0 [.slice pa 1 cp, .pointer none]) := Bo.store (P := Tryz.prog) (b := 0) [.slice pa 1 cp, .pointer none] 0 0 R rfl (show 0 + 2 ≤ 2 by decide) (List.forall_mem_cons.2 ⟨rfl, (List.forall_mem_cons.2 ⟨rfl, fun _ h => nomatch h⟩)⟩)
   have R1 : Bo (ac wr w.heap.size 0 [.slice pa 1 cp, .pointer none]) w.heap.size #[.slice pa 1 cp, .pointer none] := Bo.put [.slice pa 1 cp, .pointer none] 0 R
   have hb : But w.heap.size wr (ac wr w.heap.size 0 [.slice pa 1 cp, .pointer none]) := ak [.slice pa 1 cp, .pointer none] wr wr 0 (But.refl _ _)
   have BF := ai (k := w.heap.size) [.slice pa 1 cp, .pointer none] w wr 0 B (Nat.le_refl _)
   go_wp2_with (rw [hst])
   clear hst
   have OF := bJ O hb (Nat.lt_succ_self _)
   have hL0 := R1.load (P := Tryz.prog) (show (#[.slice pa 1 cp, .pointer none] : Array Value).size = 2 from rfl)
   (try simp only [Exit.inBlock, Exit.then])
   exact bodyPost_ret (v := .agg #[.slice pa 1 cp, .pointer none]) (by simp [results, Tryz.results56, go_sem]; rw [hL0]; rfl) rfl ⟨_, rfl, ah OF (Nat.le_succ _), BF⟩
 ·go_loopw [3, 14] (fun r i wr => ∃ j : Nat, j ≤ n ∧ i = .int .i64 (j : Int) ∧ wr.ownsRow (w.heap.size + 1) 113 1 r (psL ob ⟨b, off, none⟩ j).length (ptR (psL ob ⟨b, off, none⟩ j)) ∧ Bo wr w.heap.size #[.slice none 0 0, .pointer none] ∧ Below w.heap.size w wr ∧ w.heap.size + 1 ≤ wr.heap.size) (fun _ i _ => n - (intOf i).toNat)
  case atStart => exact ⟨0, Nat.zero_le _, rfl, O1, R, B, hlo⟩
  case round =>
   clear O1 R B hlo
   obtain ⟨j, hj, rfl, O, R, B, hlo⟩ := hrel
   by_cases hlt : j < n
   ·have hli : (j : Int) < (n : Int) := by omega
    have c6 : wr.cell? ⟨ob, 6, none⟩ = some (.slice (some ⟨b, off, none⟩) n c) := (HO.out.below B).cell rfl
    have hlen := hL3 ⟨b, off, none⟩ j
    have HR : Hid (psL ob ⟨b, off, none⟩ (j + 1) = psL ob ⟨b, off, none⟩ j ++ [⟨b, off + j, none⟩]) := by (show psL ob ⟨b, off, none⟩ (j + 1) = _; rw [psL, add_at])
    have b7 := Below.nw wr (.cells (ptR [⟨b, off + j, none⟩]).toArray 113)
    have HM := lv wr [⟨b, off + j, none⟩]
    replace O := ax O b7
    replace R := R.below b7
    replace hlo := Nat.le_trans hlo b7.size
    change Below wr.heap.size wr (wr.alloc (.cells #[.pointer (some ⟨b, off + j, none⟩)] 113)) at b7
    change ∀ i u, (ptR [⟨b, off + j, none⟩])[i]? = some u → (wr.alloc (.cells #[.pointer (some ⟨b, off + j, none⟩)] 113)).cell? ((⟨wr.heap.size, 0, none⟩ : Addr).add i) = some u at HM
    change (wr.alloc (.cells #[.pointer (some ⟨b, off + j, none⟩)] 113)).ownsRow (w.heap.size + 1) 113 1 _ (psL ob ⟨b, off, none⟩ j).length (ptR (psL ob ⟨b, off, none⟩ j)) at O
    change w.heap.size + 1 ≤ (wr.alloc (.cells #[.pointer (some ⟨b, off + j, none⟩)] 113)).heap.size at hlo
    change Bo (wr.alloc (.cells #[.pointer (some ⟨b, off + j, none⟩)] 113)) w.heap.size #[.slice none 0 0, .pointer none] at R
    replace B := B.trans (b7.mono B.size)
    clear b7
    go_wp2_with (at_builtin; refine kn rfl _ _ rfl (w.heap.size + 1) (psL ob ⟨b, off, none⟩ j) [⟨b, off + j, none⟩] _ rfl O ⟨wr.heap.size, 0, none⟩ 1 rfl HM (by show (psL ob ⟨b, off, none⟩ j).length + 1 ≤ 64; omega) hlo ?_; intro v8 w8 O8 hg8)
    have Bg := aT O hg8 hlo
    replace R := R.belowB Bg (Nat.lt_succ_self _)
    replace B := B.trans (Bg.mono (Nat.le_succ _))
    have hlo2 := Nat.le_trans hlo Bg.size
    have O9 : w8.ownsRow (w.heap.size + 1) 113 1 v8 (psL ob ⟨b, off, none⟩ (j + 1)).length (ptR (psL ob ⟨b, off, none⟩ (j + 1))) := by rw [HR.out]; exact O8
    clear Bg O O8 hg8 HM hlo HR hlen c6
    go_wp2_with fail
    go_roundw
    case rel => exact ⟨j + 1, by omega, by go_num, O9, R, B, hlo2⟩
    case measure => simp [intOf]; omega
   have hkn : j = n := by omega
   subst hkn
   have hli : ¬ (j : Int) < (j : Int) := by omega
   clear hlt
   obtain ⟨pa, cp, hv, -⟩ := cE O
   rw [show (psL ob ⟨b, off, none⟩ j).length = (1 + j) from bu _ _ _] at hv
   subst hv
   have hst : (storeCells ⟨w.heap.size, 0, none⟩ [.slice pa (1 + j) cp, .pointer none] 0).run Tryz.prog wr = .ok () (ac wr w.heap.size 0 [.slice pa (1 + j) cp, .pointer none]) := Bo.store (P := Tryz.prog) (b := 0) [.slice pa (1 + j) cp, .pointer none] 0 0 R rfl (show 0 + 2 ≤ 2 by decide) (List.forall_mem_cons.2 ⟨rfl, (List.forall_mem_cons.2 ⟨rfl, fun _ h => nomatch h⟩)⟩)
   have R1 : Bo (ac wr w.heap.size 0 [.slice pa (1 + j) cp, .pointer none]) w.heap.size #[.slice pa (1 + j) cp, .pointer none] := Bo.put [.slice pa (1 + j) cp, .pointer none] 0 R
   have hb : But w.heap.size wr (ac wr w.heap.size 0 [.slice pa (1 + j) cp, .pointer none]) := ak [.slice pa (1 + j) cp, .pointer none] wr wr 0 (But.refl _ _)
   have BF := ai (k := w.heap.size) [.slice pa (1 + j) cp, .pointer none] w wr 0 B (Nat.le_refl _)
   go_wp2_with (rw [hst])
   clear hst
   have OF := bJ O hb (Nat.lt_succ_self _)
   have hL0 := R1.load (P := Tryz.prog) (show (#[.slice pa (1 + j) cp, .pointer none] : Array Value).size = 2 from rfl)
   (try simp only [Exit.inBlock, Exit.then])
   exact bodyPost_ret (v := .agg #[.slice pa (1 + j) cp, .pointer none]) (by simp [results, Tryz.results56, go_sem]; rw [hL0]; rfl) rfl ⟨_, rfl, ah OF (Nat.le_succ _), BF⟩
end Go.Proofs.YtddjiamollfplaaGreatDoor
