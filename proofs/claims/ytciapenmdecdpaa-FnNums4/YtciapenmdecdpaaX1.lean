/- What the draws of numbers of chapter 4 leave. -/
import Derived.Test.YtciapenmdecdpaaK1
import Derived.WalkKit
import Derived.WalkSpells
import Derived.WalkLawsBesides
import Derived.Deep.QuietTactic
import Derived.BigQuiet
namespace Go.Proofs.Ytciapenmdecdpaa
open Go.RowKit
set_option linter.unusedVariables false
theorem pickIn (B p : Nat) (w : World) (L : List Int) (hcur : CurOk w B p) (h0 : 0 < L.length) (h1 : L.length ≤ 100) :
    Calls Try.prog 14 #[.pointer (some ⟨p, 0, none⟩), .slice (some ⟨w.heap.size, 0, none⟩) L.length L.length] (w.alloc (.cells (L.map (Value.int .i64)).toArray 3)) fun e w' => ∃ v : Int, e = .returned (.int .i64 v) ∧ v ∈ L ∧ CurOk w' B p ∧ But p w w' := by
  have hb : Below w.heap.size w (w.alloc (.cells (L.map (Value.int .i64)).toArray 3)) := (Below.refl _ _).alloc (Nat.le_refl _) _
  have hl := hcur.lt
  refine (l1PickInt_any B p w.heap.size 0 L.length L.length _ (hcur.below hb) h0 h1 (by simp) (by omega) (fun j hj => ⟨L[j], by simp [hj]⟩)).mono ?_
  rintro e w' ⟨j, v, hj, hv, rfl, hc, hw⟩
  refine ⟨v, rfl, ?_, hc, (But.of_below hb).trans hw⟩
  simp [hj] at hv
  rw [← hv]
  exact List.getElem_mem hj
set_option maxHeartbeats 2000000 in
theorem l4DrawNum_any (B p : Nat) (w : World) (hcur : CurOk w B p) :
    Calls Try.prog 12 #[.pointer (some ⟨p, 0, none⟩)] w fun e w' => ∃ v : Int, e = .returned (.int .i64 v) ∧ v ≤ 9223372036854775807 ∧ CurOk w' B p ∧ But p w w' := by
  go_enter Try.func12, Try.ntmps12
  go_wp2_with fail
  refine (l1Below_any B p 1000000 _ hcur).mono ?_; rintro e w1 ⟨x, rfl, xl, xh, xp, xz, w1c, w1b⟩
  clear xp xz
  go_wp2_with fail
  refine (l1Below_any B p 300 _ w1c).mono ?_; rintro e w2 ⟨y, rfl, yl, yh, yp, yz, w2c, w2b⟩
  clear yp yz
  go_wp2_with fail
  have hp := pickIn B p w2 [0, 1, 127, 128, 255, 16383, 16384, 2097151, 2097152, -1, 9223372036854775807, 72057594037927935, x, y] w2c (by simp) (by simp); simp only [List.map_cons, List.map_nil, List.length_cons, List.length_nil, Nat.zero_add, Nat.reduceAdd] at hp; refine hp.mono ?_; clear hp; rintro e w3 ⟨v, rfl, vm, w3c, w3b⟩
  have hv : v ≤ 9223372036854775807 := by
    simp at vm
    omega
  clear vm
  go_wp2_with fail
  go_ret
  exact ⟨_, rfl, hv, w3c, (w1b.trans w2b).trans w3b⟩
set_option maxHeartbeats 1000000 in
theorem DrawPutNum_any (a : Option Addr) (n c : Nat) (w : World) (hn : n ≤ 1048576) (hcode : CodeB w w.heap.size a n) :
    Calls Try.prog 5 #[.slice a n c] w fun e w' => ∃ v : Int, e = .returned (.int .i64 v) ∧ v ≤ 9223372036854775807 ∧ Below w.heap.size w w' := by
  go_enter Try.func5, Try.ntmps5
  go_wp2_with fail
  refine (l1New_any a n c _ hn hcode).mono ?_
  rintro e w1 ⟨p, rfl, hc, hb⟩
  have hl := hc.lt
  go_wp2_with fail
  refine (l4DrawNum_any _ p _ hc).mono ?_
  rintro e w2 ⟨v, rfl, hv, hc2, hb2⟩
  go_wp2_with fail
  go_ret
  exact ⟨_, rfl, hv, hb.trans (hb2.below hl.2 hb.size)⟩
set_option maxHeartbeats 1000000 in
theorem DrawFold_any (a : Option Addr) (n c : Nat) (w : World) (hn : n ≤ 1048576) (hcode : CodeB w w.heap.size a n) :
    Calls Try.prog 9 #[.slice a n c] w fun e w' => ∃ v : Int, e = .returned (.int .i64 v) ∧ Below w.heap.size w w' := by
  go_enter Try.func9, Try.ntmps9
  go_wp2_with fail
  refine (l1New_any a n c _ hn hcode).mono ?_
  rintro e w1 ⟨p, rfl, hc, hb⟩
  have hl := hc.lt
  go_wp2_with fail
  refine (l1DrawTime_any _ p _ hc).mono ?_
  rintro e w2 ⟨t, rfl, w2c, hb2⟩
  go_wp2_with fail
  have hp := pickLit _ p w2 [t, 1000000000000, 1000000000001, -1000000000000, -1000000000001, -1, 0] w2c (by simp) (by simp)
  simp only [List.map_cons, List.map_nil, List.length_cons, List.length_nil, Nat.zero_add, Nat.reduceAdd] at hp
  refine hp.mono ?_
  clear hp
  rintro e w3 ⟨v, rfl, w3c, hb3⟩
  go_wp2_with fail
  go_ret
  exact ⟨_, rfl, hb.trans ((hb2.trans hb3).below hl.2 hb.size)⟩
end Go.Proofs.Ytciapenmdecdpaa
