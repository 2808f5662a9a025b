/- The contract of a book its nonces. -/
import Derived.OwnWalkIn
import Derived.TacticsInMore
import Derived.Test.YtgempaoamamaeaaGreatM19
import Derived.Test.YtgempaoamamaeaaGreatM54
import Derived.Test.YtgempaoamamaeaaGreatM55
namespace Go.Proofs.YtgempaoamamaeaaGreat
open Go.RowKit
set_option linter.unusedVariables false
open Go.Maps Go.Sort Go.Shelf
theorem sortsA (m : Nat) : AnyZI.SortsIn Tryz.prog sortedA_ren Fence.wide m :=
  ⟨fun blk off cap ss W hH hblk hsz => callsIn_wide.2 (AnyM.slices_Sort_int sortA blk off cap ss W hH hblk hsz),
   fun p cap W => callsIn_wide.2 (AnyM.slices_Sort_int_none sortA p cap W)⟩
set_option maxHeartbeats 1000000 in
theorem nonces_any (bx b n m : Nat) (u0 u1 : Value) (F : Int → Option KT) (A : Nat → KT) (w : World) (X : Bx3 w bx u0 u1 (.map (some b))) (MP : MapK w b n F) (hn : n ≤ 1000) (hF : FA F A m) :
    Calls Tryz.prog 200 #[.pointer (some ⟨bx, 0, none⟩)] w fun e w' => ∃ v : Value, e = .returned v ∧ w'.ownsRow w.heap.size 3 1 v m ((List.range m).map fun j => Value.int .i64 (A j).1) ∧ Below w.heap.size w w' := by
  obtain ⟨D, hown, hperm, hsz⟩ := MP.keys hF
  have hm : m ≤ 1000 := by have := hown.size_le; omega
  have HQ : Hid (∀ ss : List Int, ss.Perm (intKeys D) → ss.length = m ∧ (ss.mergeSort (fun x y => decide (x ≤ y))).map encZ = (List.range m).map fun j => Value.int .i64 (A j).1) := fun ss hs => by
    refine ⟨by have := (hs.trans hperm.symm).length_eq; simpa [nzs] using this, ?_⟩
    rw [sorted_nzs hF.1 hs hperm, nzs, List.map_map]
    rfl
  clear hperm hF
  refine (callsIn_wide (n := 6)).1 ?_
  have hbl := hown.lt
  have hseq : SeqGives Fence.wide 2 Tryz.prog 239 #[.pointer (some ⟨w.heap.size, 0, none⟩)] encZ (fun ss => ss.Perm (intKeys D)) (Maps.size D) (w.alloc (.cells #[.map (some b)] 230)) :=
    AnyZI.keys_gives (ρ := keysAk_ren) { keysAk with } Fence.wide _ trivial rfl (by omega) w.heap.size b n D _ (by simp) (by simp) (by
      obtain ⟨es, clock, hb, Ft, hs, hD⟩ := hown
      exact ⟨es, clock, (Below.heap_alloc _ _ b hbl).trans hb, Ft, hs, hD⟩)
  have cK : ∀ mb W, CallsIn Fence.wide 5 Tryz.prog 221 #[.map mb] W fun e w' => e = .returned (.func (.func 239) #[] #[.pointer (some ⟨W.heap.size, 0, none⟩)]) ∧ w' = W.alloc (.cells #[.map mb] 230) := fun mb W => AnyZI.keys_in keysAk Fence.wide 5 trivial rfl mb W
  have cS := AnyZI.sorted_in sortedA Fence.wide 5 trivial trivial trivial trivial rfl (by omega) (sortsA _) (enters_of Tryz.func238 (by kernel_rfl) rfl) 239 #[.pointer (some ⟨w.heap.size, 0, none⟩)] trivial (enters_of Tryz.func239 (by kernel_rfl) rfl) _ _ (by rw [hsz]; unfold maxLen; omega) (by rw [hsz]; omega) _ hseq
  change CallsIn _ _ Tryz.prog 220 _ _ _ at cS
  have hfK : Fence.wide.fn 221 := trivial
  have hfS : Fence.wide.fn 220 := trivial
  obtain ⟨x0, x1, x2, x3, -, -, -⟩ := X
  clear MP hown hseq hsz
  refine callsIn_of_wp Tryz.func200 rfl trivial ?_ rfl
  simp only [Tryz.ntmps200, List.size_toArray, List.length_cons, List.length_nil, Nat.reduceAdd, Nat.reduceSub, Array.replicate_succ, Array.replicate_zero, List.push_toArray, List.append_toArray, List.nil_append, List.cons_append]
  gi_wp2_with (first
    | (gi_at_call 221; refine (cK _ _).mono ?_; rintro e w' ⟨rfl, rfl⟩)
    | (gi_at_call 220; refine cS.mono ?_; rintro e w' ⟨v, ss, rfl, hS, hrow, hnil, hb⟩))
  go_ret
  obtain ⟨e1, e2⟩ := HQ.out ss hS
  have hr := ownsRow_base_a hrow (show w.heap.size ≤ _ by simp)
  rw [e1, e2] at hr
  exact ⟨v, rfl, hr, ((Below.refl _ w).alloc (Nat.le_refl _) _).trans (hb.mono (by simp))⟩
end Go.Proofs.YtgempaoamamaeaaGreat
