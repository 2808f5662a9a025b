/- Numbers of texts: what is written is read as it was. -/
import Derived.Laws.OwnMore
import Derived.Lib.BufferRead
import Derived.Test.YtddjiamollfplaaDoorMP6
namespace Go.Proofs.YtddjiamollfplaaDoor
open Go.RowKit
set_option linter.unusedVariables false
theorem bt_strOf {L : List Int} (h : ∀ z ∈ L, 0 ≤ z ∧ z ≤ 255) {i : Nat} (hi : i < L.length) : bt (strOfNums L) i = L.getD i 0 := by
 have hz := h L[i] (List.getElem_mem hi)
 have hlt : L[i].toNat < 256 := by omega
 have e : (strOfNums L).data.getD i 0 = UInt8.ofNat L[i].toNat := by
  rw [strOfNums, Array.getD_eq_getD_getElem?]
  simp [List.getElem?_map, List.getElem?_eq_getElem hi]
 unfold bt
 rw [e, List.getD_eq_getElem?_getD, List.getElem?_eq_getElem hi]
 show ((UInt8.ofNat L[i].toNat).toNat : Int) = L[i]
 rw [UInt8.toNat_ofNat', Nat.mod_eq_of_lt (by simpa using hlt)]
 omega
end Go.Proofs.YtddjiamollfplaaDoor
