/- Rows that the library sorts. -/
import Derived.Test.YtkeijldfblgeaaaI110
import Derived.Sort.OwnSorted
import Derived.WalkKit
import Derived.WalkSpells
import Derived.WalkLawsBesides
import Derived.Deep.RegionHeld
namespace Go.Proofs.Ytkeijldfblgeaaa
open Go.RowKit
set_option linter.unusedVariables false
open Go.Sort Go.Shelf Go.Lib
theorem heap_laid {α : Type} [Inhabited α] (enc : α → Value) {w : World} {g n : Nat} {os : Array Obj} {cur : Array Value} {e : TypeId} {fr : Nat × Nat} (d : Array α) (hb : w.heap[g]? = some (.cells cur e fr)) :
    (grow (putRow enc (Go.Sort.ahead w n) g 0 d) os).heap[g]? = some (.cells (putCells enc 0 d cur) e fr) := by
  have hg : g < w.heap.size := (Array.getElem?_eq_some_iff.1 hb).1
  rw [heap_grow_old _ _ (by simpa using hg)]
  simp [putRow, mapBlock, Go.Sort.ahead, Array.getElem?_modify, hb, onCells]
theorem grown_laid {α : Type} [Inhabited α] (enc : α → Value) {w : World} {g n : Nat} {os : Array Obj} (d : Array α) : w.grownBy (grow (putRow enc (Go.Sort.ahead w n) g 0 d) os) (some g) := by
  refine ⟨rfl, rfl, rfl, by simp, fun k hk hne => ?_⟩
  rw [heap_grow_old _ _ (by simpa using hk)]
  have : g ≠ k := fun e => hne (by rw [e])
  simp [putRow, mapBlock, Go.Sort.ahead, Array.getElem?_modify, this]
theorem take_laid {α : Type} [Inhabited α] (enc : α → Value) (cur : Array Value) (ts : List α) (h : ts.length ≤ cur.size) : (putCells enc 0 ts.toArray cur).toList.take ts.length = ts.map enc := by
  apply List.ext_getElem?
  intro j
  by_cases hj : j < ts.length
  · rw [List.getElem?_take_of_lt hj, Array.getElem?_toList]
    simp [putCells, hj, show j < cur.size by omega]
  · rw [List.getElem?_take_eq_none (by omega), List.getElem?_eq_none (by simp; omega)]
theorem own_laid {α : Type} [Inhabited α] (enc : α → Value) {w : World} {base g cap n N s : Nat} {e : TypeId} {os : Array Obj} {cur : Array Value} {ts : List α} (hl : ts.length = N * s) (hbase : base ≤ g) (hb : w.heap[g]? = some (.cells cur e (0, 0))) (h1 : N ≤ cap) (h2 : cap ≤ maxLen) (h3 : cur.size = cap * s) :
    (grow (putRow enc (Go.Sort.ahead w n) g 0 ts.toArray) os).ownsRow base e s (.slice (some ⟨g, 0, none⟩) N cap) N (ts.map enc) :=
  ⟨by simp [hl], .inr ⟨g, cap, _, rfl, hbase, heap_laid enc _ hb, h1, h2, by simp [putCells, h3], by rw [← hl]; exact take_laid enc cur ts (by rw [hl, h3]; exact Nat.mul_le_mul_right _ h1)⟩⟩
theorem holds_laid {α : Type} [Inhabited α] (enc : α → Value) {w : World} {g N : Nat} {cur : Array Value} {e : TypeId} {ss : List α} (hN : ss.length = N) (hb : w.heap[g]? = some (.cells cur e (0, 0))) (ht : cur.toList.take N = ss.map enc) : Holds enc w g 0 ss.toArray := by
  subst hN
  intro j hj
  have hj' : j < ss.length := by simpa using hj
  refine ⟨?_, by simp [World.frozen?, hb]⟩
  have h1 : (cur.toList.take ss.length)[j]? = (ss.map enc)[j]? := by rw [ht]
  rw [List.getElem?_take_of_lt hj'] at h1
  simp only [World.cell?, hb, Nat.zero_add]
  simp only [Option.isSome_none, Bool.false_eq_true, if_false]
  rw [← Array.getElem?_toList, h1]
  simp [hj']
instance : Inhabited PT := ⟨zP⟩
theorem encP_at (p : PT) (j : Nat) (hj : j < 5) : (encP p)[j]! = MCPeer p j := by
  match j, hj with
  | 0, _ => rfl
  | 1, _ => rfl
  | 2, _ => rfl
  | 3, _ => rfl
  | 4, _ => rfl
theorem flat_prow (L : List PT) : flatK encP 5 L.toArray = (prow L).toArray := by
  apply Array.ext
  · simp [prow]
  · intro t h1 h2
    have ht : t < L.length * 5 := by simpa using h1
    simp only [flatK, Array.getElem_map, Array.getElem_range]
    simp only [prow, List.getElem_toArray, List.getElem_map, List.getElem_range]
    rw [encP_at _ _ (Nat.mod_lt _ (by decide)), MFPeer]
    congr 1
    have hd : t / 5 < L.length := by omega
    simp [gP, hd]
theorem prow_len (L : List PT) : (prow L).length = L.length * 5 := by simp [prow]
theorem ltP (x y : PT) : ltOf cmpP x y = decide (x.1 < y.1) := by
  unfold ltOf cmpP Go.Lib.compareInt
  by_cases h1 : x.1 < y.1
  · simp [h1]
  · by_cases h2 : y.1 < x.1 <;> simp [h1, h2]
theorem swoP : SWO (ltOf cmpP) where
  irrefl x := by rw [ltP]; simp
  trans x y z h1 h2 := by rw [ltP] at *; simp at *; omega
  ntrans x y z h1 h2 := by rw [ltP] at *; simp at *; omega
theorem sorted_list {F : Int → Option PT} {L acc : List PT} (hF : FLP F L) (hp : acc.Perm L) {d : Array PT} (h1 : PermIn 0 acc.toArray.size acc.toArray d) (h2 : SortedIn (ltOf cmpP) 0 acc.toArray.size d) : d.toList = L := by
  obtain ⟨e1, _, e3⟩ := h1
  have q1 : d.toList.Perm acc := by
    have : d.extract 0 acc.toArray.size = d := by rw [← e1]; simp
    rw [this] at e3
    simpa using e3
  refine hF.sorted (q1.trans hp) ?_
  rw [List.pairwise_iff_getElem]
  intro i j hi hj hij
  have h := h2 i j (Nat.zero_le _) hij (by rw [← e1]; simpa using hj)
  rw [ltP] at h
  have a1 : d[i]! = d.toList[i] := by simp [getElem!_pos d i (by simpa using hi)]
  have a2 : d[j]! = d.toList[j] := by simp [getElem!_pos d j (by simpa using hj)]
  rw [a1, a2] at h
  simpa using h
theorem aggP (w : World) : (isAgg 51).run Try.prog w = .ok true w := by kernel_rfl
theorem sizP (w : World) : (Go.sizeOf 51).run Try.prog w = .ok 5 w := by kernel_rfl
theorem sortP_any {F : Int → Option PT} {L acc : List PT} (hF : FLP F L) (hp : acc.Perm L) (base g cap : Nat) (w : World) (hown : w.ownsRow base 51 5 (.slice (some ⟨g, 0, none⟩) acc.length cap) acc.length (prow acc)) (h12 : acc.length ≤ 12) :
    Calls Try.prog 49 #[.slice (some ⟨g, 0, none⟩) acc.length cap, .func (.func 50) #[] #[]] w fun e w' => e = .returned (.tuple #[]) ∧ w'.ownsRow base 51 5 (.slice (some ⟨g, 0, none⟩) acc.length cap) L.length (prow L) ∧ w.grownBy w' (some g) := by
  rcases hown.2 with ⟨he, _⟩ | ⟨g', cap', cur, he, hbase, hb, h1, h2, h3, h4⟩
  · simp at he
  simp at he
  obtain ⟨rfl, rfl⟩ := he
  have eg : ∀ args w, (callFunc 50 args).run Try.prog w = .ok (.enter 50 args) w := enters_of Try.func50 (by kernel_rfl) rfl
  have hH : HoldsK encP 5 w g 0 acc.toArray := by
    rw [HoldsK, flat_prow]
    exact holds_laid id (by rw [prow_len]) hb (by rw [List.map_id]; exact h4)
  have hcon := Go.Proofs.AnyQ.slices_SortFunc_small_sorted sortF 5 aggP sizP encP (fun _ => rfl) (fun x v hv => by simp [encP] at hv; rcases hv with rfl | rfl | rfl | rfl | rfl <;> rfl) cmpP 50 #[] swoP g 0 cap acc.toArray w eg (fun m os dk _ x y => closeP x y _) hH ((Array.getElem?_eq_some_iff.1 hb).1) (by simpa using h12) bitsLen10
  change Calls Try.prog 49 _ _ _ at hcon
  rw [show acc.toArray.size = acc.length by simp] at hcon
  refine hcon.mono ?_
  rintro e w' ⟨rfl, d', n, os, p1, p2, rfl⟩
  have hd : d'.toList = L := sorted_list hF hp (by simpa using p1) (by simpa using p2)
  have hd' : d' = L.toArray := by rw [← hd]
  subst hd'
  have hlen := hp.length_eq
  refine ⟨rfl, ?_, ?_⟩
  · have q := own_laid id (n := n) (os := os) (ts := prow L) (N := L.length) (s := 5) (by rw [prow_len]) hbase hb (by omega) h2 h3
    rw [List.map_id, ← flat_prow] at q
    rw [hlen]
    exact q
  · exact grown_laid id _
end Go.Proofs.Ytkeijldfblgeaaa
