/- What the functions over lists of sources tell; contracts of PeersFresh. Peers by their Ids: a map, told by a function of the Id; what a range over it meets. The library's contracts of slices.SortFunc, cmp.Compare and slices.Sort at this program. Contracts of impl.rosterOf, and of what the sort calls. Rows that the library sorts. The contract of a roster its list. Contracts of PeerAge, PeersSure, PeerDrop in the specification. Contracts of PeerDrop and PeerAge in the program. What PeerPut tells; its contract in the program. The contract of PeerPut in the specification. What the draws leave: times, intervals, the new cursor. What the draws leave: times, intervals, the new cursor. A struct of two ints in a block: what keeps it. What the draws of chapter 2 leave: a drift, a count. A list of peers is drawn. An element of a list of peers is written. A list that may be none is drawn. -/
import Derived.Test.YtkeijldfblgeaaaGreatMm2
import Derived.WalkKit
import Derived.WalkSpells
import Derived.WalkLawsBesides
import Derived.Deep.RegionHeld
import Derived.Maps.OwnSet
import Derived.Maps.RangeWalk
import Derived.Lib.SlKeysI
import Derived.Shelf.SlSortCmp.SmallK
import Derived.Shelf.SlicesG.Cmp
import Derived.Shelf.SortM.Plain
import Derived.Shelf.SortM.SortNone
import Derived.Test.YtkeijldfblgeaaaGreatProg
import Derived.Shelf.Small.Bits
import Derived.Sort.OwnSorted
import Derived.Deep.RegionHeld3
import Derived.Laws.MakeOwn
import Derived.Test.YtkeijldfblgeaaaGreatMm1
import Derived.Deep.QuietTactic
import Derived.BigQuiet
namespace Go.Proofs.YtkeijldfblgeaaaGreat
open Go.RowKit
set_option linter.unusedVariables false
theorem SrcC.some {w : World} {a : Option Addr} {N : Nat} {F : Nat → Value} (h : SrcC w a N F) (hN : 0 < N) : ∃ b off, a = some ⟨b, off, none⟩ ∧ Cs w b off N F := by
  rcases h with h | h
  · omega
  · exact h
def lst (M : Nat → PT) (n : Nat) : List PT := (List.range n).map M
theorem lst_succ (M : Nat → PT) (k : Nat) : lst M (k + 1) = lst M k ++ [M k] := by simp [lst, List.range_succ]
theorem lst_mem {M : Nat → PT} {n : Nat} {q : PT} : q ∈ lst M n ↔ ∃ j, j < n ∧ M j = q := by simp [lst]
theorem lst_len (M : Nat → PT) (n : Nat) : (lst M n).length = n := by simp [lst]
def frB (x y : Int) (p : PT) : Bool := decide (0 ≤ x - p.2.2.2.1 ∧ x - p.2.2.2.1 ≤ y)
def frs (M : Nat → PT) (x y : Int) : Nat → List Int
  | 0 => []
  | k + 1 => if frB x y (M k) then frs M x y k ++ [(k : Int)] else frs M x y k
theorem frs_yes {M : Nat → PT} {x y : Int} {k : Nat} (h : frB x y (M k) = true) : frs M x y (k + 1) = frs M x y k ++ [(k : Int)] := by simp [frs, h]
theorem frs_no {M : Nat → PT} {x y : Int} {k : Nat} (h : frB x y (M k) = false) : frs M x y (k + 1) = frs M x y k := by simp [frs, h]
theorem frs_len (M : Nat → PT) (x y : Int) : ∀ k, (frs M x y k).length ≤ k
  | 0 => Nat.le_refl _
  | k + 1 => by have := frs_len M x y k; simp only [frs]; split <;> simp <;> omega
def frL (M : Nat → PT) (n : Nat) (x y : Int) : List Int := if (oks M n && okT x && okT y) = true then frs M x y n else []
theorem frL_t {M : Nat → PT} {n : Nat} {x y : Int} (h1 : oks M n = true) (h2 : okT x = true) (h3 : okT y = true) : frL M n x y = frs M x y n := if_pos (by rw [h1, h2, h3]; rfl)
theorem frL_1 {M : Nat → PT} {n : Nat} {x y : Int} (h1 : oks M n = false) : frL M n x y = [] := if_neg (by rw [h1]; simp)
theorem frL_2 {M : Nat → PT} {n : Nat} {x y : Int} (h1 : okT x = false) : frL M n x y = [] := if_neg (by rw [h1]; simp)
theorem frL_3 {M : Nat → PT} {n : Nat} {x y : Int} (h1 : okT y = false) : frL M n x y = [] := if_neg (by rw [h1]; simp)
theorem PeersFresh_len (M : Nat → PT) (n : Nat) (x y : Int) : (frL M n x y).length ≤ 9 := by
  unfold frL
  split
  · next h => simp only [Bool.and_eq_true] at h; have := oks_le h.1.1; have := frs_len M x y n; omega
  · simp
/- The peer of an Id, among the first k. -/
def lkP (M : Nat → PT) : Nat → Int → Option PT
  | 0, _ => none
  | k + 1, x => if (M k).1 = x then some (M k) else lkP M k x
theorem lkP_none {M : Nat → PT} {x : Int} : ∀ {k : Nat}, (∀ j, j < k → (M j).1 ≠ x) → lkP M k x = none
  | 0, _ => rfl
  | k + 1, h => by rw [lkP, if_neg (h k (by omega))]; exact lkP_none fun j hj => h j (by omega)
theorem lkP_at {M : Nat → PT} : ∀ {n : Nat}, (∀ i j, i < j → j < n → (M i).1 < (M j).1) → ∀ {j : Nat}, j < n → lkP M n (M j).1 = some (M j)
  | 0, _, j, h => absurd h (Nat.not_lt_zero _)
  | n + 1, ha, j, h => by
    rw [lkP]
    by_cases e : j = n
    · subst e; rw [if_pos rfl]
    · rw [if_neg (by have := ha j n (by omega) (by omega); omega)]
      exact lkP_at (fun a b h1 h2 => ha a b h1 (by omega)) (by omega)
theorem lkP_some {M : Nat → PT} {x : Int} {q : PT} : ∀ {k : Nat}, lkP M k x = some q → ∃ j, j < k ∧ M j = q ∧ q.1 = x
  | 0, h => by cases h
  | k + 1, h => by
    rw [lkP] at h
    by_cases e : (M k).1 = x
    · rw [if_pos e] at h
      injection h with h
      exact ⟨k, by omega, h, by rw [← h]; exact e⟩
    · rw [if_neg e] at h
      obtain ⟨j, h1, h2, h3⟩ := lkP_some h
      exact ⟨j, by omega, h2, h3⟩
theorem lkP_step {M : Nat → PT} {k : Nat} {x0 : Int} (e : (M k).1 = x0) (y : Int) : lkP M (k + 1) y = if y = x0 then some (M k) else lkP M k y := by
  rw [lkP]
  by_cases h : y = x0
  · rw [if_pos h, if_pos (e.trans h.symm)]
  · rw [if_neg h, if_neg (fun q => h (q.symm.trans e))]
def agI (y : Int) (p : PT) : Int := imx (y - p.2.2.2.1) (-1)
def agO (y : Int) : Option PT → Int
  | some p => agI y p
  | none => -1
def pAge (M : Nat → PT) (n : Nat) (x y : Int) : Int := if (oks M n && okT y) = true then agO y (lkP M n x) else -1
theorem pAge_t {M : Nat → PT} {n : Nat} {x y : Int} (h1 : oks M n = true) (h2 : okT y = true) : pAge M n x y = agO y (lkP M n x) := if_pos (by rw [h1, h2]; rfl)
theorem pAge_1 {M : Nat → PT} {n : Nat} {x y : Int} (h1 : oks M n = false) : pAge M n x y = -1 := if_neg (by rw [h1]; simp)
theorem pAge_2 {M : Nat → PT} {n : Nat} {x y : Int} (h1 : okT y = false) : pAge M n x y = -1 := if_neg (by rw [h1]; simp)
def suN (M : Nat → PT) (n : Nat) : List Int := ((lst M n).filter fun p => !p.2.2.2.2).map fun p => p.1
theorem suN_yes {M : Nat → PT} {k : Nat} (h : (M k).2.2.2.2 = false) : suN M (k + 1) = suN M k ++ [(M k).1] := by simp [suN, lst_succ, h]
theorem suN_no {M : Nat → PT} {k : Nat} (h : (M k).2.2.2.2 = true) : suN M (k + 1) = suN M k := by simp [suN, lst_succ, h]
theorem suN_len (M : Nat → PT) (n : Nat) : (suN M n).length ≤ n := by
  rw [suN, List.length_map]
  exact Nat.le_trans (List.length_filter_le _ _) (Nat.le_of_eq (lst_len M n))
def suL (M : Nat → PT) (n : Nat) : List Int := if oks M n = true then suN M n else []
theorem suL_t {M : Nat → PT} {n : Nat} (h : oks M n = true) : suL M n = suN M n := if_pos h
theorem suL_f {M : Nat → PT} {n : Nat} (h : oks M n = false) : suL M n = [] := if_neg (by rw [h]; simp)
theorem PeersSure_len (M : Nat → PT) (n : Nat) : (suL M n).length ≤ 9 := by
  unfold suL
  split
  · next h => have := oks_le h; have := suN_len M n; omega
  · simp
def drN (M : Nat → PT) (x : Int) (n : Nat) : List PT := (lst M n).filter fun p => p.1 != x
theorem drN_yes {M : Nat → PT} {x : Int} {k : Nat} (h : (M k).1 ≠ x) : drN M x (k + 1) = drN M x k ++ [M k] := by simp [drN, lst_succ, h]
theorem drN_no {M : Nat → PT} {x : Int} {k : Nat} (h : (M k).1 = x) : drN M x (k + 1) = drN M x k := by simp [drN, lst_succ, h]
theorem drN_len (M : Nat → PT) (x : Int) (n : Nat) : (drN M x n).length ≤ n := Nat.le_trans (List.length_filter_le _ _) (Nat.le_of_eq (lst_len M n))
def drA (M : Nat → PT) (x : Int) (n : Nat) : Int := if (lst M n).any (fun p => p.1 == x) then 0 else 2
theorem drA_yes {M : Nat → PT} {x : Int} {k : Nat} (h : (M k).1 = x) : drA M x (k + 1) = 0 := by simp [drA, lst_succ, h]
theorem drA_no {M : Nat → PT} {x : Int} {k : Nat} (h : (M k).1 ≠ x) : drA M x (k + 1) = drA M x k := by
  have e : ((M k).1 == x) = false := beq_eq_false_iff_ne.2 h
  unfold drA
  rw [lst_succ, List.any_append]
  simp only [List.any_cons, List.any_nil, e, Bool.or_false]
def drL (M : Nat → PT) (n : Nat) (x : Int) : List PT := if oks M n = true then drN M x n else []
def drC (M : Nat → PT) (n : Nat) (x : Int) : Int := if oks M n = true then drA M x n else 1
theorem drL_t {M : Nat → PT} {n : Nat} {x : Int} (h : oks M n = true) : drL M n x = drN M x n ∧ drC M n x = drA M x n := ⟨if_pos h, if_pos h⟩
theorem drL_f {M : Nat → PT} {n : Nat} {x : Int} (h : oks M n = false) : drL M n x = [] ∧ drC M n x = 1 := ⟨if_neg (by rw [h]; simp), if_neg (by rw [h]; simp)⟩
theorem PeerDrop_len (M : Nat → PT) (n : Nat) (x : Int) : (drL M n x).length ≤ 9 := by
  unfold drL
  split
  · next h => have := oks_le h; have := drN_len M x n; omega
  · simp
set_option maxRecDepth 100000 in
set_option maxHeartbeats 4000000 in
theorem specPeersFresh_any (a : Option Addr) (n c : Nat) (M : Nat → PT) (x y : Int) (w : World) (hm : n ≤ maxLen) (hs : SrcC w a (n * 5) (MFPeer M)) :
    Calls Tryz.prog 27 #[.slice a n c, .int .i64 x, .int .i64 y] w fun e w' => ∃ v, e = .returned v ∧ w'.ownsRow w.heap.size 3 1 v (frL M n x y).length (irow (frL M n x y)) ∧ Below w.heap.size w w' := by
  have HS : Hid (SrcC w a (n * 5) (MFPeer M)) := hs
  have B0 := Below.nw w (.cells #[] 3)
  have O0 := made_int w
  have C1 := fun (v : World) (hb : Below w.heap.size w v) => specPeersOk_any a n c M v hm (HS.out.below hb)
  clear hs
  cases h1 : oks M n
  · have e0 : frL M n x y = [] := frL_1 h1
    rw [e0]
    clear e0
    go_enter Tryz.func27, Tryz.ntmps27
    go_upto_region 2 with fail
    generalize hw0 : w.alloc (.cells #[] 3) = w0 at *
    clear hw0
    go_wp2_with fail
    refine (C1 _ B0).mono ?_
    rintro e w1 ⟨rfl, hb⟩
    rw [h1]
    replace B0 := B0.trans (hb.mono B0.size)
    replace O0 := own_belK' O0 hb
    clear hb
    go_wp2_with fail
    go_ret
    exact ⟨_, rfl, O0, B0⟩
  cases h2 : okT x
  · have e0 : frL M n x y = [] := frL_2 h2
    rw [e0]
    clear e0
    go_enter Tryz.func27, Tryz.ntmps27
    go_upto_region 2 with fail
    generalize hw0 : w.alloc (.cells #[] 3) = w0 at *
    clear hw0
    go_wp2_with fail
    refine (C1 _ B0).mono ?_
    rintro e w1 ⟨rfl, hb⟩
    rw [h1]
    replace B0 := B0.trans (hb.mono B0.size)
    replace O0 := own_belK' O0 hb
    clear hb
    go_wp2_with fail
    refine (l2Time_any _ _).mono ?_
    rintro e w' ⟨rfl, rfl⟩
    rw [h2]
    go_wp2_with fail
    go_ret
    exact ⟨_, rfl, O0, B0⟩
  cases h3 : okT y
  · have e0 : frL M n x y = [] := frL_3 h3
    rw [e0]
    clear e0
    go_enter Tryz.func27, Tryz.ntmps27
    go_upto_region 2 with fail
    generalize hw0 : w.alloc (.cells #[] 3) = w0 at *
    clear hw0
    go_wp2_with fail
    refine (C1 _ B0).mono ?_
    rintro e w1 ⟨rfl, hb⟩
    rw [h1]
    replace B0 := B0.trans (hb.mono B0.size)
    replace O0 := own_belK' O0 hb
    clear hb
    go_wp2_with fail
    refine (l2Time_any _ _).mono ?_
    rintro e w' ⟨rfl, rfl⟩
    rw [h2]
    go_wp2_with fail
    refine (l2Time_any _ _).mono ?_
    rintro e w' ⟨rfl, rfl⟩
    rw [h3]
    go_wp2_with fail
    go_ret
    exact ⟨_, rfl, O0, B0⟩
  rw [frL_t h1 h2 h3]
  have HOK : Hid (oks M n = true) := h1
  have hn8 := oks_le h1
  have ⟨hx0, hx1⟩ := okT_t h2
  have ⟨hy0, hy1⟩ := okT_t h3
  go_enter Tryz.func27, Tryz.ntmps27
  go_upto_region 2 with fail
  generalize hw0 : w.alloc (.cells #[] 3) = w0 at *
  clear hw0
  go_wp2_with fail
  refine (C1 _ B0).mono ?_
  rintro e w1 ⟨rfl, hb⟩
  rw [h1]
  replace B0 := B0.trans (hb.mono B0.size)
  replace O0 := own_belK' O0 hb
  clear hb
  go_wp2_with fail
  refine (l2Time_any _ _).mono ?_
  rintro e w' ⟨rfl, rfl⟩
  rw [h2]
  go_wp2_with fail
  refine (l2Time_any _ _).mono ?_
  rintro e w' ⟨rfl, rfl⟩
  rw [h3]
  clear C1 h1 h2 h3
  go_wp2_with fail
  go_loopw [7, 8] (fun v i wr => ∃ k : Nat, k ≤ n ∧ i = .int .i64 k ∧ wr.ownsRow w.heap.size 3 1 v (frs M x y k).length (irow (frs M x y k)) ∧ Below w.heap.size w wr) (fun _ i _ => n - (intOf i).toNat)
  case atStart => exact ⟨0, Nat.zero_le _, rfl, O0, B0⟩
  case round =>
    obtain ⟨k, hk, rfl, OW, hB⟩ := hrel
    by_cases hlt : k < n
    · obtain ⟨b, off, rfl, hf⟩ := HS.out.some (by omega)
      obtain ⟨x0, x1, x2, x3, x4, hM⟩ := tupPeer M k
      obtain ⟨c0, c1, c2, c3, c4⟩ := (hf.below hB hf.1).elPeer hlt hM
      have hat := okT_t (oks_p HOK.out hlt).2.2
      rw [hM] at hat
      have hat0 : 0 ≤ x3 := hat.1
      have hat1 : x3 ≤ 1000000000000 := hat.2
      have HFB : Hid (frB x y (M k) = decide (0 ≤ x - x3 ∧ x - x3 ≤ y)) := by rw [Hid, hM]; rfl
      have hli : (k : Int) < (n : Int) := by omega
      have hbr : b < wr.heap.size := Nat.lt_of_lt_of_le hf.1 hB.size
      have hln := frs_len M x y k
      have HY : Hid (frB x y (M k) = true → frs M x y (k + 1) = frs M x y k ++ [(k : Int)]) := frs_yes
      have HNn : Hid (frB x y (M k) = false → frs M x y (k + 1) = frs M x y k) := frs_no
      clear hM hat hf
      have hBs := hB.size
      generalize frs M x y k = L at *
      cases h4 : decide (0 ≤ x - x3 ∧ x - x3 ≤ y)
      · have HT := HNn.out (by rw [HFB.out, h4])
        have HT' : Hid (frs M x y (k + 1) = L) := HT
        clear HT
        go_wp2_with fail
        refine (l1In_any _ _ _ _).mono ?_
        rintro e w' ⟨rfl, rfl⟩
        rw [h4]
        go_wp2_with fail
        go_roundw
        case rel => exact ⟨k + 1, by omega, by go_num, by rw [HT'.out]; exact OW, hB⟩
        case measure => simp [intOf]; omega
      · have HT := HY.out (by rw [HFB.out, h4])
        have HT' : Hid (frs M x y (k + 1) = L ++ [(k : Int)]) := HT
        clear HT
        go_wp2_with fail
        refine (l1In_any _ _ _ _).mono ?_
        rintro e w' ⟨rfl, rfl⟩
        rw [h4]
        clear c0 c1 c2 c3 c4
        go_wp2_with (at_builtin; refine add_int rfl _ _ rfl w.heap.size L _ rfl OW rfl (by omega) (by omega) ?_; intro v' w9 O9 hg9 hn9)
        have HO9 : Hid (w9.ownsRow w.heap.size 3 1 v' (L ++ [(k : Int)]).length (irow (L ++ [(k : Int)]))) := O9
        have B9 := hB.trans (grown_belowK OW hg9 hBs)
        clear O9 OW hg9 hn9 hB
        go_wp2_with fail
        go_roundw
        case rel => exact ⟨k + 1, by omega, by go_num, by rw [HT'.out]; exact HO9.out, B9⟩
        case measure => simp [intOf]; omega
    · have hkn : k = n := by omega
      subst hkn
      have hli : ¬ (k : Int) < (k : Int) := by omega
      obtain ⟨av, cv, rfl, _, _, _⟩ := ownF_src OW
      go_wp2_with fail
      go_ret
      exact ⟨_, rfl, OW, hB⟩
set_option maxRecDepth 100000 in
set_option maxHeartbeats 4000000 in
theorem implPeersFresh_w (a : Option Addr) (n c : Nat) (M : Nat → PT) (x y : Int) (w : World) (hm : n ≤ maxLen) (hs : SrcC w a (n * 5) (MFPeer M)) :
    Calls Tryz.prog 39 #[.slice a n c, .int .i64 x, .int .i64 y] w fun e w' => ∃ v, e = .returned v ∧ w'.ownsRow w.heap.size 3 1 v (frL M n x y).length (irow (frL M n x y)) ∧ Below w.heap.size w w' := by
  have HS : Hid (SrcC w a (n * 5) (MFPeer M)) := hs
  have B0 := Below.refl w.heap.size w
  have C1 := fun (v : World) (hb : Below w.heap.size w v) => implPeersOk_any a n c M v hm (HS.out.below hb)
  clear hs
  cases h1 : oks M n
  · have e0 : frL M n x y = [] := frL_1 h1
    rw [e0]
    clear e0
    go_enter Tryz.func39, Tryz.ntmps39
    go_wp2_with fail
    refine (C1 _ B0).mono ?_
    rintro e w1 ⟨rfl, hb⟩
    rw [h1]
    replace B0 := B0.trans (hb.mono B0.size)
    clear hb
    go_wp2_with fail
    go_ret
    exact ⟨_, rfl, (nil_int _ _), B0⟩
  cases h2 : okT x
  · have e0 : frL M n x y = [] := frL_2 h2
    rw [e0]
    clear e0
    go_enter Tryz.func39, Tryz.ntmps39
    go_wp2_with fail
    refine (C1 _ B0).mono ?_
    rintro e w1 ⟨rfl, hb⟩
    rw [h1]
    replace B0 := B0.trans (hb.mono B0.size)
    clear hb
    go_wp2_with fail
    refine (isTime_any _ _).mono ?_
    rintro e w' ⟨rfl, rfl⟩
    rw [h2]
    go_wp2_with fail
    go_ret
    exact ⟨_, rfl, (nil_int _ _), B0⟩
  cases h3 : okT y
  · have e0 : frL M n x y = [] := frL_3 h3
    rw [e0]
    clear e0
    go_enter Tryz.func39, Tryz.ntmps39
    go_wp2_with fail
    refine (C1 _ B0).mono ?_
    rintro e w1 ⟨rfl, hb⟩
    rw [h1]
    replace B0 := B0.trans (hb.mono B0.size)
    clear hb
    go_wp2_with fail
    refine (isTime_any _ _).mono ?_
    rintro e w' ⟨rfl, rfl⟩
    rw [h2]
    go_wp2_with fail
    refine (isTime_any _ _).mono ?_
    rintro e w' ⟨rfl, rfl⟩
    rw [h3]
    go_wp2_with fail
    go_ret
    exact ⟨_, rfl, (nil_int _ _), B0⟩
  rw [frL_t h1 h2 h3]
  have HOK : Hid (oks M n = true) := h1
  have hn8 := oks_le h1
  have ⟨hx0, hx1⟩ := okT_t h2
  have ⟨hy0, hy1⟩ := okT_t h3
  go_enter Tryz.func39, Tryz.ntmps39
  go_wp2_with fail
  refine (C1 _ B0).mono ?_
  rintro e w1 ⟨rfl, hb⟩
  rw [h1]
  replace B0 := B0.trans (hb.mono B0.size)
  clear hb
  go_wp2_with fail
  refine (isTime_any _ _).mono ?_
  rintro e w' ⟨rfl, rfl⟩
  rw [h2]
  go_wp2_with fail
  refine (isTime_any _ _).mono ?_
  rintro e w' ⟨rfl, rfl⟩
  rw [h3]
  clear C1 h1 h2 h3
  go_wp2_with fail
  go_loopw [7, 26] (fun v i wr => ∃ k : Nat, k ≤ n ∧ i = .int .i64 k ∧ wr.ownsRow w.heap.size 3 1 v (frs M x y k).length (irow (frs M x y k)) ∧ Below w.heap.size w wr) (fun _ i _ => n - (intOf i).toNat)
  case atStart => exact ⟨0, Nat.zero_le _, rfl, (nil_int _ _), B0⟩
  case round =>
    obtain ⟨k, hk, rfl, OW, hB⟩ := hrel
    by_cases hlt : k < n
    · obtain ⟨b, off, rfl, hf⟩ := HS.out.some (by omega)
      obtain ⟨x0, x1, x2, x3, x4, hM⟩ := tupPeer M k
      obtain ⟨c0, c1, c2, c3, c4⟩ := (hf.below hB hf.1).elPeer hlt hM
      have hat := okT_t (oks_p HOK.out hlt).2.2
      rw [hM] at hat
      have hat0 : 0 ≤ x3 := hat.1
      have hat1 : x3 ≤ 1000000000000 := hat.2
      have HFB : Hid (frB x y (M k) = decide (0 ≤ x - x3 ∧ x - x3 ≤ y)) := by rw [Hid, hM]; rfl
      have hli : (k : Int) < (n : Int) := by omega
      have hbr : b < wr.heap.size := Nat.lt_of_lt_of_le hf.1 hB.size
      have hln := frs_len M x y k
      have HY : Hid (frB x y (M k) = true → frs M x y (k + 1) = frs M x y k ++ [(k : Int)]) := frs_yes
      have HNn : Hid (frB x y (M k) = false → frs M x y (k + 1) = frs M x y k) := frs_no
      clear hM hat hf
      have hBs := hB.size
      generalize frs M x y k = L at *
      have A1 := Below.nw wr (.cells #[.int .i64 x0, .int .i64 x1, .int .i64 x2, .int .i64 x3, .bool x4] 35)
      have KB := Bx5.new wr (.int .i64 x0) (.int .i64 x1) (.int .i64 x2) (.int .i64 x3) (.bool x4) 35
      go_upto_region 7 with fail
      clear c0 c1 c2 c3 c4
      replace hB := hB.trans (A1.mono hB.size)
      replace OW := own_belK' OW A1
      replace hBs := hB.size
      clear hbr A1
      generalize hbk : wr.heap.size = bk at *
      generalize wr.alloc (.cells #[.int .i64 x0, .int .i64 x1, .int .i64 x2, .int .i64 x3, .bool x4] 35) = w1b at *
      obtain ⟨k9, k0, k1, k2, k3, k4, f0, f1, f2, f3, f4⟩ := id KB
      by_cases h4 : 0 ≤ x - x3
      · by_cases h5 : x - x3 ≤ y
        · have HT' : Hid (frs M x y (k + 1) = L ++ [(k : Int)]) := HY.out (by rw [HFB.out]; exact decide_eq_true ⟨h4, h5⟩)
          clear HY HNn HFB
          go_wp2_with (at_builtin; refine add_int rfl _ _ rfl w.heap.size L _ rfl OW rfl (by omega) (by omega) ?_; intro v' w9 O9 hg9 hn9)
          have HO9 : Hid (w9.ownsRow w.heap.size 3 1 v' (L ++ [(k : Int)]).length (irow (L ++ [(k : Int)]))) := O9
          have B9 := hB.trans (grown_belowK OW hg9 hBs)
          clear O9 OW hg9 hn9 hB k9 k0 k1 k2 k3 k4 f0 f1 f2 f3 f4 KB
          go_wp2_with fail
          go_roundw
          case rel => exact ⟨k + 1, by omega, by go_num, by rw [HT'.out]; exact HO9.out, B9⟩
          case measure => simp [intOf]; omega
        · have HT' : Hid (frs M x y (k + 1) = L) := HNn.out (by rw [HFB.out]; exact decide_eq_false (fun h => h5 h.2))
          clear HY HNn HFB
          go_wp2_with fail
          go_roundw
          case rel => exact ⟨k + 1, by omega, by go_num, by rw [HT'.out]; exact OW, hB⟩
          case measure => simp [intOf]; omega
      · have HT' : Hid (frs M x y (k + 1) = L) := HNn.out (by rw [HFB.out]; exact decide_eq_false (fun h => h4 h.1))
        clear HY HNn HFB
        go_wp2_with fail
        go_roundw
        case rel => exact ⟨k + 1, by omega, by go_num, by rw [HT'.out]; exact OW, hB⟩
        case measure => simp [intOf]; omega
    · have hkn : k = n := by omega
      subst hkn
      have hli : ¬ (k : Int) < (k : Int) := by omega
      obtain ⟨av, cv, rfl, _, _, _⟩ := ownF_src OW
      go_wp2_with fail
      go_ret
      exact ⟨_, rfl, OW, hB⟩
theorem implPeersFresh_any (a : Option Addr) (n c : Nat) (M : Nat → PT) (x y : Int) (w : World) (hm : n ≤ maxLen) (hs : SrcC w a (n * 5) (MFPeer M)) (wx : (Lit.int .i64 x).wf = true) (wy : (Lit.int .i64 y).wf = true) :
    Calls Tryz.prog 39 #[.slice a n c, .int .i64 x, .int .i64 y] w fun e w' => ∃ v, e = .returned v ∧ w'.ownsRow w.heap.size 3 1 v (frL M n x y).length (irow (frL M n x y)) ∧ Below w.heap.size w w' := implPeersFresh_w a n c M x y w hm hs
end Go.Proofs.YtkeijldfblgeaaaGreat
namespace Go.Proofs.YtkeijldfblgeaaaGreat
open Go.RowKit
set_option linter.unusedVariables false
def pv (M : PT) : Value := .agg #[.int .i64 M.1, .int .i64 M.2.1, .int .i64 M.2.2.1, .int .i64 M.2.2.2.1, .bool M.2.2.2.2]
open Classical in
noncomputable def R0p (v : Value) : Option (DataW Value × List MemPlace) := if ∃ M, v = pv M then some (.held v, []) else none
theorem R0p_mk (M : PT) : R0p (pv M) = some (.held (pv M), []) := if_pos ⟨M, rfl⟩
theorem R0p_inv {v : Value} {d : DataW Value} {ps : List MemPlace} (h : R0p v = some (d, ps)) : (∃ M, v = pv M) ∧ .held v = d := by
  unfold R0p at h
  split at h
  · next hM => simp only [Option.some.injEq, Prod.mk.injEq] at h; exact ⟨hM, h.1⟩
  · cases h
def atP (o : Option PT) (z : DataW Value) : DataW Value := match o with | some M => .held (pv M) | none => z
def MapP (w : World) (b n : Nat) (F : Int → Option PT) : Prop := ∃ D : DataW Value, w.ownsMap Tryz.prog 3 R0p b n D ∧ ∀ x, (∀ z, D.atKey (.int .i64 x) z = atP (F x) z) ∧ Maps.has D (.int .i64 x) = (F x).isSome
theorem lawPk : Maps.Keyed Tryz.prog 3 := Maps.int_keyed Tryz.underlying3
theorem zeroPk (w : World) : (zeroValue 35).run Tryz.prog w = .ok (pv zP) w := by kernel_rfl
theorem run_mkmapP (n : Nat) (w : World) : (Instr.makeMap 51 (some (.int .i64 (n : Int)))).run Tryz.prog w = .ok (.map (some w.heap.size)) (w.alloc (.map #[] 0)) := by
  first | kernel_rfl | rfl | (simp [Instr.makeMap, go_sem]; done) | (simp [Instr.makeMap]; done)
theorem MapP.made (w : World) : MapP (w.alloc (.map #[] 0)) w.heap.size 0 (fun _ => none) := ⟨.map [], World.ownsMap_made w _ _ _, fun x => ⟨fun z => rfl, rfl⟩⟩
theorem MapP.kept {w w' : World} {b n : Nat} {F : Int → Option PT} (h : MapP w b n F) {row : Option Nat} (hg : w.grownBy w' row) (hne : some b ≠ row) : MapP w' b n F := by
  obtain ⟨D, h1, h2⟩ := h
  exact ⟨D, h1.kept hg hne, h2⟩
theorem MapP.lt {w : World} {b n : Nat} {F : Int → Option PT} (h : MapP w b n F) : b < w.heap.size := by
  obtain ⟨D, h1, h2⟩ := h
  exact h1.lt
theorem MapP.below {w w' : World} {b n : Nat} {F : Int → Option PT} (h : MapP w b n F) (hb : Below w.heap.size w w') : MapP w' b n F :=
  h.kept (row := none) ⟨hb.os, hb.tape, hb.output, hb.size, fun k hk _ => hb.block k hk⟩ (by simp)
theorem MapP.setCell {w : World} {b n : Nat} {F : Int → Option PT} (h : MapP w b n F) {a : Addr} (ha : b ≠ a.block) (u : Value) : MapP (w.setCell a u) b n F := by
  obtain ⟨D, h1, h2⟩ := h
  exact ⟨D, h1.setCell ha u, h2⟩
theorem MapP.congr {w : World} {b n : Nat} {F G : Int → Option PT} (h : MapP w b n F) (e : ∀ x, F x = G x) : MapP w b n G := by
  obtain ⟨D, h1, h2⟩ := h
  exact ⟨D, h1, fun x => by rw [← e x]; exact h2 x⟩
theorem held_injP {o : Option PT} {v : Value} {ps : List MemPlace} (h : R0p v = some (atP o (.held (pv zP)), ps)) : v = pv (o.getD zP) := by
  have h1 := (R0p_inv h).2
  cases o with
  | none => simp only [atP, DataW.held.injEq] at h1; exact h1
  | some M => simp only [atP, DataW.held.injEq] at h1; exact h1
theorem MapP.look_ok {w : World} {b n : Nat} {F : Int → Option PT} (h : MapP w b n F) {x : Int} (hx : (Lit.int .i64 x).wf = true) : (Instr.lookup 51 (.map (some b)) (.int .i64 x) true).run Tryz.prog w = .ok (.tuple #[pv ((F x).getD zP), .bool (F x).isSome]) w := by
  obtain ⟨D, h1, h2⟩ := h
  obtain ⟨v, ps, hrun, hv⟩ := h1.look_ok (t := 51) (e := 35) lawPk Tryz.underlying51 (zeroPk w) (zd := .held (pv zP)) (zp := []) (R0p_mk zP) (Maps.keyOf_int_mk Tryz.underlying3 hx)
  rw [(h2 x).1] at hv
  rw [hrun, held_injP hv, (h2 x).2]
theorem MapP.look {w : World} {b n : Nat} {F : Int → Option PT} (h : MapP w b n F) {x : Int} (hx : (Lit.int .i64 x).wf = true) : (Instr.lookup 51 (.map (some b)) (.int .i64 x) false).run Tryz.prog w = .ok (pv ((F x).getD zP)) w := by
  obtain ⟨D, h1, h2⟩ := h
  obtain ⟨v, ps, hrun, hv⟩ := h1.lookup (t := 51) (e := 35) lawPk Tryz.underlying51 (zeroPk w) (zd := .held (pv zP)) (zp := []) (R0p_mk zP) (Maps.keyOf_int_mk Tryz.underlying3 hx)
  rw [(h2 x).1] at hv
  rw [hrun, held_injP hv]
theorem lit_neP {x y : Int} (h : x ≠ y) : (Lit.int .i64 x) ≠ (Lit.int .i64 y) := fun e => h (by injection e)
theorem MapP.put {w : World} {b n : Nat} {F : Int → Option PT} (h : MapP w b n F) {x : Int} (hx : (Lit.int .i64 x).wf = true) (hn : n < maxLen) (M : PT) :
    ∃ w', (Instr.mapUpdate 51 (.map (some b)) (.int .i64 x) (pv M)).run Tryz.prog w = .ok () w' ∧ MapP w' b (n + 1) (fun y => if y = x then some M else F y) ∧ w.grownBy w' (some b) := by
  obtain ⟨D, h1, h2⟩ := h
  have hD := h1.isMap
  obtain ⟨w', hrun, ho, hg⟩ := h1.update (t := 51) (e := 35) lawPk Tryz.underlying51 hn (key := .int .i64 x) (val := pv M) (d := .held (pv M)) (ps := []) (Maps.keyOf_int_mk Tryz.underlying3 hx) (R0p_mk M)
  refine ⟨w', hrun, ⟨_, ho, fun y => ?_⟩, hg⟩
  by_cases e : y = x
  · subst e
    simp only [if_true]
    exact ⟨fun z => Maps.atKey_put_same hD (show WideAt.IsKeyLit (.int .i64 y) from trivial) _ _, Maps.has_put_same hD (show WideAt.IsKeyLit (.int .i64 y) from trivial) _⟩
  · simp only [if_neg e]
    exact ⟨fun z => (Maps.atKey_put_other (lit_neP e) _ _).trans ((h2 y).1 z), (Maps.has_put_other (lit_neP e) _).trans (h2 y).2⟩
theorem MapP.del {w : World} {b n : Nat} {F : Int → Option PT} (h : MapP w b n F) {x : Int} (hx : (Lit.int .i64 x).wf = true) (ty : TypeId) :
    ∃ w', (Builtin.delete_ #[51, 3] ty #[.map (some b), .int .i64 x]).run Tryz.prog w = .ok (.tuple #[]) w' ∧ MapP w' b n (fun y => if y = x then none else F y) ∧ w.grownBy w' (some b) := by
  obtain ⟨D, h1, h2⟩ := h
  obtain ⟨w', hrun, ho, hg⟩ := h1.drop (t := 51) (e := 35) lawPk Tryz.underlying51 (Maps.keyOf_int_mk Tryz.underlying3 hx) ty
  refine ⟨w', hrun, ⟨_, ho, fun y => ?_⟩, hg.grown⟩
  by_cases e : y = x
  · subst e
    simp only [if_true]
    exact ⟨fun z => Maps.atKey_del_same z, Maps.has_del_same⟩
  · simp only [if_neg e]
    exact ⟨fun z => (Maps.atKey_del_other (lit_neP e) _).trans ((h2 y).1 z), (Maps.has_del_other (lit_neP e)).trans (h2 y).2⟩

theorem MapP.but {w w' : World} {b n q : Nat} {F : Int → Option PT} (h : MapP w b n F) (hb : But q w w') (hq : b ≠ q) : MapP w' b n F := h.kept hb.grK (by simpa using hq)
theorem MapP.drew {w : World} {b n : Nat} {F : Int → Option PT} (h : MapP w b n F) : MapP w.drew b n F := h
/- What a map tells, as a list that ascends by Id. -/
def FLP (F : Int → Option PT) (L : List PT) : Prop := L.Pairwise (fun a b => a.1 < b.1) ∧ ∀ x q, F x = some q ↔ (q ∈ L ∧ q.1 = x)
theorem FLP.ofLst {M : Nat → PT} {n : Nat} (h : oks M n = true) : FLP (lkP M n) (lst M n) := by
  refine ⟨?_, fun x q => ⟨fun hx => ?_, fun ⟨h1, h2⟩ => ?_⟩⟩
  · rw [lst, List.pairwise_map]
    exact List.Pairwise.imp_of_mem (fun {a b} ha hb hab => oks_asc h hab (List.mem_range.1 hb)) List.pairwise_lt_range
  · obtain ⟨j, h1, h2, h3⟩ := lkP_some hx
    exact ⟨lst_mem.2 ⟨j, h1, h2⟩, h3⟩
  · obtain ⟨j, hj, rfl⟩ := lst_mem.1 h1
    rw [← h2]
    exact lkP_at (fun i j h1 h2 => oks_asc h h1 h2) hj
theorem FLP.del {F : Int → Option PT} {L : List PT} (h : FLP F L) (x : Int) : FLP (fun y => if y = x then none else F y) (L.filter fun p => p.1 != x) := by
  refine ⟨h.1.filter _, fun y q => ?_⟩
  show (if y = x then none else F y) = some q ↔ _
  by_cases e : y = x
  · rw [if_pos e]
    simp only [List.mem_filter]
    constructor
    · intro hh; cases hh
    · rintro ⟨⟨_, h2⟩, h3⟩
      rw [h3, e] at h2
      simp at h2
  · rw [if_neg e, h.2 y q]
    simp only [List.mem_filter]
    constructor
    · rintro ⟨h1, h2⟩
      refine ⟨⟨h1, ?_⟩, h2⟩
      rw [h2]
      simpa using e
    · rintro ⟨⟨h1, _⟩, h3⟩
      exact ⟨h1, h3⟩
theorem FLP.none_same {F : Int → Option PT} {L : List PT} (h : FLP F L) {x : Int} (hx : F x = none) : (L.filter fun p => p.1 != x) = L := by
  refine List.filter_eq_self.2 fun q hq => ?_
  have := (h.2 q.1 q).2 ⟨hq, rfl⟩
  by_cases e : q.1 = x
  · rw [e, hx] at this; cases this
  · simpa using e
theorem FLP.len {M : Nat → PT} {n : Nat} : (lst M n).length = n := lst_len M n
theorem FLP.nodup {F : Int → Option PT} {L : List PT} (h : FLP F L) : L.Nodup := by
  refine List.Pairwise.imp (fun {a b} hab e => ?_) h.1
  rw [e] at hab
  exact absurd hab (Int.lt_irrefl _)
theorem FLP.sorted {F : Int → Option PT} {L : List PT} (h : FLP F L) {acc : List PT} (hp : acc.Perm L) (hs : acc.Pairwise (fun a b => ¬ b.1 < a.1)) : acc = L := by
  refine List.Perm.eq_of_pairwise (le := fun a b : PT => a.1 ≤ b.1) (fun a b ha hb h1 h2 => ?_) (List.Pairwise.imp (fun {a b} hab => by omega) hs) (List.Pairwise.imp (fun {a b} hab => by omega) h.1) hp
  have ha' := hp.mem_iff.1 ha
  have e : a.1 = b.1 := Int.le_antisymm h1 h2
  have q1 := (h.2 a.1 a).2 ⟨ha', rfl⟩
  have q2 := (h.2 b.1 b).2 ⟨by first | exact hb | exact hp.mem_iff.1 hb, rfl⟩
  rw [e] at q1
  exact Option.some.inj (q1.symm.trans q2)
/- What a range over the map has met so far. -/
def Met (F : Int → Option PT) (left : Lit → Bool) (acc : List PT) : Prop := acc.Nodup ∧ ∀ q, q ∈ acc ↔ (F q.1 = some q ∧ left (.int .i64 q.1) = false)
theorem Met.step {F : Int → Option PT} {left : Lit → Bool} {acc : List PT} (h : Met F left acc) {q : PT} (hq : F q.1 = some q) (hl : left (.int .i64 q.1) = true) : Met F (fun z => left z && !z.sameKey (.int .i64 q.1)) (acc ++ [q]) := by
  have hn : q ∉ acc := fun hm => by have := ((h.2 q).1 hm).2; rw [hl] at this; cases this
  refine ⟨?_, fun r => ?_⟩
  · rw [List.nodup_append]
    refine ⟨h.1, by simp, fun a ha b hb e => ?_⟩
    simp at hb
    subst hb
    subst e
    exact hn ha
  · rw [List.mem_append, h.2 r, List.mem_singleton]
    by_cases e : r.1 = q.1
    · constructor
      · rintro (⟨h1, h2⟩ | rfl)
        · rw [e] at h2; rw [hl] at h2; cases h2
        · exact ⟨hq, by simp [Lit.sameKey]⟩
      · rintro ⟨h1, h2⟩
        rw [e, hq] at h1
        exact .inr (Option.some.inj h1).symm
    · have hk : (Lit.int .i64 r.1).sameKey (.int .i64 q.1) = false := by simp [Lit.sameKey, e]
      constructor
      · rintro (⟨h1, h2⟩ | rfl)
        · exact ⟨h1, by simp [h2]⟩
        · exact absurd rfl e
      · rintro ⟨h1, h2⟩
        refine .inl ⟨h1, ?_⟩
        have h3 : (left (.int .i64 r.1) && !(Lit.int .i64 r.1).sameKey (.int .i64 q.1)) = false := h2
        rw [hk] at h3
        simpa using h3
theorem Met.perm {F : Int → Option PT} {L acc : List PT} {left : Lit → Bool} (hF : FLP F L) (h : Met F left acc) (hl : ∀ kl, left kl = false) : acc.Perm L := by
  refine (List.perm_ext_iff_of_nodup h.1 hF.nodup).2 fun q => ?_
  rw [h.2 q, hF.2 q.1 q]
  constructor
  · rintro ⟨⟨h1, _⟩, _⟩; exact h1
  · intro h1; exact ⟨⟨h1, rfl⟩, hl _⟩
theorem MapP.sized {w : World} {b n : Nat} {F : Int → Option PT} {L : List PT} (h : MapP w b n F) (hF : FLP F L) : ∃ D : DataW Value, w.ownsMap Tryz.prog 3 R0p b n D ∧ (∀ x, (∀ z, D.atKey (.int .i64 x) z = atP (F x) z) ∧ Maps.has D (.int .i64 x) = (F x).isSome) ∧ Maps.size D = L.length := by
  obtain ⟨D, h1, h2⟩ := h
  have hm : ∀ x, x ∈ L.map (fun p => p.1) ↔ (F x).isSome = true := fun x => by
    rw [List.mem_map]
    constructor
    · rintro ⟨q, hq, rfl⟩
      rw [(hF.2 q.1 q).2 ⟨hq, rfl⟩]; rfl
    · intro hx
      obtain ⟨q, hq⟩ := Option.isSome_iff_exists.1 hx
      exact ⟨q, (hF.2 x q).1 hq⟩
  have hp : (L.map fun p => p.1).Perm (intKeys D) := CollectedI.perm (left := fun _ => false) ⟨by
    rw [List.Nodup, List.pairwise_map]
    exact List.Pairwise.imp (fun hab => Int.ne_of_lt hab) hF.1, fun x => by rw [hm x, (h2 x).2]; simp⟩ h1 lawPk Tryz.underlying3 (fun _ => rfl)
  refine ⟨D, h1, h2, ?_⟩
  have hl := hp.length_eq
  obtain ⟨es, hD, _⟩ := h1.keysOf
  subst hD
  simp [intKeys] at hl
  simp [Maps.size]
  omega
theorem MapP.len {w : World} {b n : Nat} {F : Int → Option PT} {L : List PT} (h : MapP w b n F) (hF : FLP F L) (ty : TypeId) : (Builtin.len_ #[51] ty #[.map (some b)]).run Tryz.prog w = .ok (.int .i64 (L.length : Int)) w := by
  obtain ⟨D, h1, _, h3⟩ := h.sized hF
  have := h1.len (t := 51) (e := 35) Tryz.underlying51 ty
  rw [h3] at this
  exact this
end Go.Proofs.YtkeijldfblgeaaaGreat
namespace Go.Proofs.YtkeijldfblgeaaaGreat
open Go.Shelf
def sortF_ren : Go.Shelf.Ren := ⟨fun | 6 => 44 | 15 => 57 | 14 => 56 | 28 => 73 | 29 => 74 | 20 => 65 | 21 => 66 | 22 => 67 | 23 => 68 | 24 => 69 | 25 => 70 | 26 => 71 | 27 => 72 | 46 => 90 | 47 => 91 | 48 => 92 | 49 => 93 | 50 => 94 | 57 => 103 | n => n, fun | 22 => 24 | 24 => 35 | 25 => 78 | 3 => 3 | 39 => 81 | 0 => 0 | 53 => 99 | 55 => 101 | 4 => 4 | 46 => 93 | 45 => 92 | 50 => 86 | 5 => 5 | 9 => 9 | 66 => 111 | 70 => 115 | 76 => 120 | 77 => 45 | n => n, fun | n => n⟩
theorem sortF : Go.Proofs.SlLaysF0.n6 Tryz.prog sortF_ren := {
  mixed := by kernel_rfl
  f6 := ⟨Tryz.f44.name, by decide, Tryz.func44.trans (congrArg some (by kernel_rfl))⟩
  f14 := ⟨Tryz.f56.name, by decide, Tryz.func56.trans (congrArg some (by kernel_rfl))⟩
  f15 := Tryz.func57.trans (congrArg some (by kernel_rfl))
  f20 := ⟨Tryz.f65.name, by decide, Tryz.func65.trans (congrArg some (by kernel_rfl))⟩
  f21 := ⟨Tryz.f66.name, by decide, Tryz.func66.trans (congrArg some (by kernel_rfl))⟩
  f22 := ⟨Tryz.f67.name, by decide, Tryz.func67.trans (congrArg some (by kernel_rfl))⟩
  f23 := ⟨Tryz.f68.name, by decide, Tryz.func68.trans (congrArg some (by kernel_rfl))⟩
  f24 := ⟨Tryz.f69.name, by decide, Tryz.func69.trans (congrArg some (by kernel_rfl))⟩
  f25 := ⟨Tryz.f70.name, by decide, Tryz.func70.trans (congrArg some (by kernel_rfl))⟩
  f26 := ⟨Tryz.f71.name, by decide, Tryz.func71.trans (congrArg some (by kernel_rfl))⟩
  f27 := ⟨Tryz.f72.name, by decide, Tryz.func72.trans (congrArg some (by kernel_rfl))⟩
  f28 := Tryz.func73.trans (congrArg some (by kernel_rfl))
  f29 := Tryz.func74.trans (congrArg some (by kernel_rfl))
  f46 := ⟨Tryz.f90.name, by decide, Tryz.func90.trans (congrArg some (by kernel_rfl))⟩
  f47 := Tryz.func91.trans (congrArg some (by kernel_rfl))
  f48 := Tryz.func92.trans (congrArg some (by kernel_rfl))
  f49 := ⟨Tryz.f93.name, by decide, Tryz.func93.trans (congrArg some (by kernel_rfl))⟩
  f50 := ⟨Tryz.f94.name, by decide, Tryz.func94.trans (congrArg some (by kernel_rfl))⟩
  f57 := ⟨Tryz.f103.name, by decide, Tryz.func103.trans (congrArg some (by kernel_rfl))⟩
  t0 := Tryz.underlying0
  a0 := Tryz.isAgg0
  z0 := Tryz.sizeOf0
  v0 := Tryz.zeroValue0
  t3 := Tryz.underlying3
  a3 := Tryz.isAgg3
  z3 := Tryz.sizeOf3
  v3 := Tryz.zeroValue3
  t4 := Tryz.underlying4
  a4 := Tryz.isAgg4
  z4 := Tryz.sizeOf4
  v4 := Tryz.zeroValue4
  t5 := Tryz.underlying5
  a5 := Tryz.isAgg5
  z5 := Tryz.sizeOf5
  v5 := Tryz.zeroValue5
  t9 := Tryz.underlying9
  a9 := Tryz.isAgg9
  z9 := Tryz.sizeOf9
  v9 := Tryz.zeroValue9
  t22 := Tryz.underlying24
  a22 := Tryz.isAgg24
  z22 := Tryz.sizeOf24
  v22 := Tryz.zeroValue24
  t25 := Tryz.underlying78
  a25 := Tryz.isAgg78
  z25 := Tryz.sizeOf78
  v25 := Tryz.zeroValue78
  t39 := Tryz.underlying81
  a39 := Tryz.isAgg81
  z39 := Tryz.sizeOf81
  v39 := Tryz.zeroValue81
  t45 := Tryz.underlying92
  a45 := Tryz.isAgg92
  z45 := Tryz.sizeOf92
  v45 := Tryz.zeroValue92
  t46 := Tryz.underlying93
  a46 := Tryz.isAgg93
  z46 := Tryz.sizeOf93
  v46 := Tryz.zeroValue93
  t50 := Tryz.underlying86
  a50 := Tryz.isAgg86
  z50 := Tryz.sizeOf86
  v50 := Tryz.zeroValue86
  t53 := Tryz.underlying99
  a53 := Tryz.isAgg99
  z53 := Tryz.sizeOf99
  v53 := Tryz.zeroValue99
  t55 := Tryz.underlying101
  a55 := Tryz.isAgg101
  z55 := Tryz.sizeOf101
  v55 := Tryz.zeroValue101
  t66 := Tryz.underlying111
  a66 := Tryz.isAgg111
  z66 := Tryz.sizeOf111
  v66 := Tryz.zeroValue111
  t70 := Tryz.underlying115
  a70 := Tryz.isAgg115
  z70 := Tryz.sizeOf115
  v70 := Tryz.zeroValue115
  t76 := Tryz.underlying120
  a76 := Tryz.isAgg120
  z76 := Tryz.sizeOf120
  v76 := Tryz.zeroValue120
  t77 := Tryz.underlying45
  a77 := Tryz.isAgg45
  z77 := Tryz.sizeOf45
  v77 := Tryz.zeroValue45 }
def cmpI_ren : Go.Shelf.Ren := ⟨fun | 5 => 46 | 7 => 58 | n => n, fun | 22 => 3 | 3 => 3 | 4 => 4 | n => n, fun | n => n⟩
theorem cmpI : Go.Proofs.SlLaysC2.n5 Tryz.prog cmpI_ren := {
  mixed := by kernel_rfl
  f5 := ⟨Tryz.f46.name, by decide, Tryz.func46.trans (congrArg some (by kernel_rfl))⟩
  f7 := ⟨Tryz.f58.name, by decide, Tryz.func58.trans (congrArg some (by kernel_rfl))⟩
  t3 := Tryz.underlying3
  a3 := Tryz.isAgg3
  z3 := Tryz.sizeOf3
  v3 := Tryz.zeroValue3
  t4 := Tryz.underlying4
  a4 := Tryz.isAgg4
  z4 := Tryz.sizeOf4
  v4 := Tryz.zeroValue4
  t22 := Tryz.underlying3
  a22 := Tryz.isAgg3
  z22 := Tryz.sizeOf3
  v22 := Tryz.zeroValue3 }
def sortA_ren : Go.Shelf.Ren := ⟨fun | 5 => 50 | 8 => 57 | 7 => 62 | 19 => 73 | 20 => 74 | 10 => 78 | 11 => 79 | 12 => 80 | 13 => 81 | 14 => 82 | 15 => 83 | 16 => 84 | 17 => 85 | 18 => 86 | 30 => 95 | 31 => 91 | 32 => 92 | 33 => 96 | 34 => 97 | 35 => 58 | 40 => 104 | n => n, fun | 23 => 37 | 25 => 3 | 3 => 3 | 32 => 81 | 22 => 37 | 0 => 0 | 44 => 99 | 46 => 101 | 4 => 4 | 36 => 93 | 35 => 92 | 41 => 86 | 5 => 5 | 9 => 9 | 53 => 111 | 57 => 115 | 63 => 120 | 64 => 45 | n => n, fun | n => n⟩
theorem sortA : Go.Proofs.SlLaysM.n5 Tryz.prog sortA_ren := {
  mixed := by kernel_rfl
  f5 := ⟨Tryz.f50.name, by decide, Tryz.func50.trans (congrArg some (by kernel_rfl))⟩
  f7 := ⟨Tryz.f62.name, by decide, Tryz.func62.trans (congrArg some (by kernel_rfl))⟩
  f8 := Tryz.func57.trans (congrArg some (by kernel_rfl))
  f10 := ⟨Tryz.f78.name, by decide, Tryz.func78.trans (congrArg some (by kernel_rfl))⟩
  f11 := ⟨Tryz.f79.name, by decide, Tryz.func79.trans (congrArg some (by kernel_rfl))⟩
  f12 := ⟨Tryz.f80.name, by decide, Tryz.func80.trans (congrArg some (by kernel_rfl))⟩
  f13 := ⟨Tryz.f81.name, by decide, Tryz.func81.trans (congrArg some (by kernel_rfl))⟩
  f14 := ⟨Tryz.f82.name, by decide, Tryz.func82.trans (congrArg some (by kernel_rfl))⟩
  f15 := ⟨Tryz.f83.name, by decide, Tryz.func83.trans (congrArg some (by kernel_rfl))⟩
  f16 := ⟨Tryz.f84.name, by decide, Tryz.func84.trans (congrArg some (by kernel_rfl))⟩
  f17 := ⟨Tryz.f85.name, by decide, Tryz.func85.trans (congrArg some (by kernel_rfl))⟩
  f18 := ⟨Tryz.f86.name, by decide, Tryz.func86.trans (congrArg some (by kernel_rfl))⟩
  f19 := Tryz.func73.trans (congrArg some (by kernel_rfl))
  f20 := Tryz.func74.trans (congrArg some (by kernel_rfl))
  f30 := ⟨Tryz.f95.name, by decide, Tryz.func95.trans (congrArg some (by kernel_rfl))⟩
  f31 := Tryz.func91.trans (congrArg some (by kernel_rfl))
  f32 := Tryz.func92.trans (congrArg some (by kernel_rfl))
  f33 := ⟨Tryz.f96.name, by decide, Tryz.func96.trans (congrArg some (by kernel_rfl))⟩
  f34 := ⟨Tryz.f97.name, by decide, Tryz.func97.trans (congrArg some (by kernel_rfl))⟩
  f35 := ⟨Tryz.f58.name, by decide, Tryz.func58.trans (congrArg some (by kernel_rfl))⟩
  f40 := ⟨Tryz.f104.name, by decide, Tryz.func104.trans (congrArg some (by kernel_rfl))⟩
  t0 := Tryz.underlying0
  a0 := Tryz.isAgg0
  z0 := Tryz.sizeOf0
  v0 := Tryz.zeroValue0
  t3 := Tryz.underlying3
  a3 := Tryz.isAgg3
  z3 := Tryz.sizeOf3
  v3 := Tryz.zeroValue3
  t4 := Tryz.underlying4
  a4 := Tryz.isAgg4
  z4 := Tryz.sizeOf4
  v4 := Tryz.zeroValue4
  t5 := Tryz.underlying5
  a5 := Tryz.isAgg5
  z5 := Tryz.sizeOf5
  v5 := Tryz.zeroValue5
  t9 := Tryz.underlying9
  a9 := Tryz.isAgg9
  z9 := Tryz.sizeOf9
  v9 := Tryz.zeroValue9
  t22 := Tryz.underlying37
  a22 := Tryz.isAgg37
  z22 := Tryz.sizeOf37
  v22 := Tryz.zeroValue37
  t23 := Tryz.underlying37
  a23 := Tryz.isAgg37
  z23 := Tryz.sizeOf37
  v23 := Tryz.zeroValue37
  t25 := Tryz.underlying3
  a25 := Tryz.isAgg3
  z25 := Tryz.sizeOf3
  v25 := Tryz.zeroValue3
  t32 := Tryz.underlying81
  a32 := Tryz.isAgg81
  z32 := Tryz.sizeOf81
  v32 := Tryz.zeroValue81
  t35 := Tryz.underlying92
  a35 := Tryz.isAgg92
  z35 := Tryz.sizeOf92
  v35 := Tryz.zeroValue92
  t36 := Tryz.underlying93
  a36 := Tryz.isAgg93
  z36 := Tryz.sizeOf93
  v36 := Tryz.zeroValue93
  t41 := Tryz.underlying86
  a41 := Tryz.isAgg86
  z41 := Tryz.sizeOf86
  v41 := Tryz.zeroValue86
  t44 := Tryz.underlying99
  a44 := Tryz.isAgg99
  z44 := Tryz.sizeOf99
  v44 := Tryz.zeroValue99
  t46 := Tryz.underlying101
  a46 := Tryz.isAgg101
  z46 := Tryz.sizeOf101
  v46 := Tryz.zeroValue101
  t53 := Tryz.underlying111
  a53 := Tryz.isAgg111
  z53 := Tryz.sizeOf111
  v53 := Tryz.zeroValue111
  t57 := Tryz.underlying115
  a57 := Tryz.isAgg115
  z57 := Tryz.sizeOf115
  v57 := Tryz.zeroValue115
  t63 := Tryz.underlying120
  a63 := Tryz.isAgg120
  z63 := Tryz.sizeOf120
  v63 := Tryz.zeroValue120
  t64 := Tryz.underlying45
  a64 := Tryz.isAgg45
  z64 := Tryz.sizeOf45
  v64 := Tryz.zeroValue45 }
end Go.Proofs.YtkeijldfblgeaaaGreat
namespace Go.Proofs.YtkeijldfblgeaaaGreat
open Go.RowKit
set_option linter.unusedVariables false
set_option maxHeartbeats 1000000 in
theorem rosterOf_bad (a : Option Addr) (n c : Nat) (M : Nat → PT) (w : World) (hm : n ≤ maxLen) (hs : SrcC w a (n * 5) (MFPeer M)) (h1 : oks M n = false) :
    Calls Tryz.prog 18 #[.slice a n c] w fun e w' => e = .returned (.tuple #[.map none, .bool false]) ∧ Below w.heap.size w w' := by
  have C1 := implPeersOk_any a n c M w hm hs
  clear hs
  go_enter Tryz.func18, Tryz.ntmps18
  go_wp2_with fail
  refine C1.mono ?_
  rintro e w1 ⟨rfl, hb⟩
  rw [h1]
  go_wp2_with fail
  exact bodyPost_ret (v := (.tuple #[.map none, .bool false])) (by simp (maxDischargeDepth := 6) [results, Tryz.results18, go_sem, *]) rfl ⟨rfl, hb⟩
set_option maxRecDepth 100000 in
set_option maxHeartbeats 4000000 in
theorem rosterOf_ok (a : Option Addr) (n c : Nat) (M : Nat → PT) (w : World) (hm : n ≤ maxLen) (hs : SrcC w a (n * 5) (MFPeer M)) (h1 : oks M n = true) :
    Calls Tryz.prog 18 #[.slice a n c] w fun e w' => ∃ b, e = .returned (.tuple #[.map (some b), .bool true]) ∧ w.heap.size ≤ b ∧ MapP w' b n (lkP M n) ∧ Below w.heap.size w w' := by
  have C1 := implPeersOk_any a n c M w hm hs
  have HS : Hid (SrcC w a (n * 5) (MFPeer M)) := hs
  have HOK : Hid (oks M n = true) := h1
  have hn8 := oks_le h1
  clear hs
  go_enter Tryz.func18, Tryz.ntmps18
  go_wp2_with fail
  refine C1.mono ?_
  rintro e w1 ⟨rfl, B1⟩
  rw [h1]
  clear C1 h1
  have hmk := run_mkmapP n w1
  have R0 := MapP.made w1
  have B2 := B1.trans ((Below.nw w1 (.map #[] 0)).mono B1.size)
  have hb0 : w.heap.size ≤ w1.heap.size := B1.size
  go_upto_region 4 with fail
  clear hmk
  generalize hbm : w1.heap.size = bm at *
  generalize w1.alloc (.map #[] 0) = w2 at *
  go_wp2_with fail
  go_loopw [15] (fun i wr => ∃ k : Nat, k ≤ n ∧ i = .int .i64 k ∧ MapP wr bm k (lkP M k) ∧ Below w.heap.size w wr) (fun i _ => n - (intOf i).toNat)
  case atStart => exact ⟨0, Nat.zero_le _, rfl, R0.congr (fun _ => rfl), B2⟩
  case round =>
    obtain ⟨k, hk, rfl, MP, hB⟩ := hrel
    by_cases hlt : k < n
    · obtain ⟨b, off, rfl, hf⟩ := HS.out.some (by omega)
      obtain ⟨x0, x1, x2, x3, x4, hM⟩ := tupPeer M k
      obtain ⟨c0, c1, c2, c3, c4⟩ := (hf.below hB hf.1).elPeer hlt hM
      have hid := nodB_t (oks_p HOK.out hlt).1
      rw [hM] at hid
      have hwf : (Lit.int .i64 x0).wf = true := by
        have h1 : 0 ≤ x0 := hid.1
        have h2 : x0 ≤ 7 := hid.2
        simp only [Lit.wf, Bool.and_eq_true, decide_eq_true_eq]
        exact ⟨by show (-9223372036854775808 : Int) ≤ x0; omega, by show x0 ≤ (9223372036854775807 : Int); omega⟩
      have hli : (k : Int) < (n : Int) := by omega
      have hbr : b < wr.heap.size := Nat.lt_of_lt_of_le hf.1 hB.size
      have A1 := Below.nw wr (.cells #[.int .i64 x0, .int .i64 x1, .int .i64 x2, .int .i64 x3, .bool x4] 35)
      have KB := Bx5.new wr (.int .i64 x0) (.int .i64 x1) (.int .i64 x2) (.int .i64 x3) (.bool x4) 35
      have HLK : Hid (∀ y, lkP M (k + 1) y = if y = x0 then some (x0, x1, x2, x3, x4) else lkP M k y) := fun y => by rw [lkP_step (x0 := x0) (by rw [hM]), hM]
      clear hM hid hf
      go_upto_region 7 with fail
      clear c0 c1 c2 c3 c4
      replace hB := hB.trans (A1.mono hB.size)
      replace MP := MP.below A1
      have hBs := hB.size
      clear hbr A1
      generalize hbk : wr.heap.size = bk at *
      generalize wr.alloc (.cells #[.int .i64 x0, .int .i64 x1, .int .i64 x2, .int .i64 x3, .bool x4] 35) = w1b at *
      obtain ⟨k9, k0, k1, k2, k3, k4, f0, f1, f2, f3, f4⟩ := id KB
      obtain ⟨w9, hrun, MP9, hg9⟩ := MP.put hwf (by unfold maxLen; omega) (x0, x1, x2, x3, x4)
      have HMP : Hid (MapP w9 bm (k + 1) (lkP M (k + 1))) := MP9.congr (fun y => (HLK.out y).symm)
      have B9 := hB.trans ((But.ofGrownK hg9).below hb0 hBs)
      simp only [pv] at hrun
      clear MP MP9 hg9
      go_wp2_with fail
      clear hrun
      go_roundw
      case rel => exact ⟨k + 1, by omega, by go_num, HMP.out, B9⟩
      case measure => simp [intOf]; omega
    · have hkn : k = n := by omega
      subst hkn
      have hli : ¬ (k : Int) < (k : Int) := by omega
      go_wp2_with fail
      exact bodyPost_ret (v := (.tuple #[.map (some bm), .bool true])) (by simp (maxDischargeDepth := 6) [results, Tryz.results18, go_sem, *]) rfl ⟨bm, rfl, hb0, MP, hB⟩
def lenR : Go.Shelf.Ren := ⟨fun | 125 => 57 | 128 => 73 | 129 => 74 | n => n, fun | 3 => 3 | 4 => 4 | 5 => 5 | 9 => 9 | 46 => 81 | 51 => 99 | 53 => 101 | n => n, fun | n => n⟩
theorem lenL : Go.Proofs.Lays.n125 Tryz.prog lenR := {
  mixed := by kernel_rfl
  f125 := Tryz.func57.trans (congrArg some (by kernel_rfl))
  f128 := Tryz.func73.trans (congrArg some (by kernel_rfl))
  f129 := Tryz.func74.trans (congrArg some (by kernel_rfl))
  t3 := Tryz.underlying3
  a3 := fun w => by kernel_rfl
  z3 := fun w => by kernel_rfl
  v3 := fun w => by kernel_rfl
  t4 := Tryz.underlying4
  a4 := fun w => by kernel_rfl
  z4 := fun w => by kernel_rfl
  v4 := fun w => by kernel_rfl
  t5 := Tryz.underlying5
  a5 := fun w => by kernel_rfl
  z5 := fun w => by kernel_rfl
  v5 := fun w => by kernel_rfl
  t9 := Tryz.underlying9
  a9 := fun w => by kernel_rfl
  z9 := fun w => by kernel_rfl
  v9 := fun w => by kernel_rfl
  t46 := Tryz.underlying81
  a46 := fun w => by kernel_rfl
  z46 := fun w => by kernel_rfl
  v46 := fun w => by kernel_rfl
  t51 := Tryz.underlying99
  a51 := fun w => by kernel_rfl
  z51 := fun w => by kernel_rfl
  v51 := fun w => by kernel_rfl
  t53 := Tryz.underlying101
  a53 := fun w => by kernel_rfl
  z53 := fun w => by kernel_rfl
  v53 := fun w => by kernel_rfl }
theorem bitsLen10 (n : Nat) (W : World) (h : n ≤ 12) : Calls Tryz.prog 57 #[.int .u64 n] W fun e w' => (∃ l : Int, e = .returned (.int .i64 l)) ∧ w' = W :=
  (Go.Proofs.Any.bits_Len lenL n W (by omega) (by omega)).mono fun _ _ ⟨he, hw⟩ => ⟨⟨_, he⟩, hw⟩
def encP (x : PT) : List Value := [.int .i64 x.1, .int .i64 x.2.1, .int .i64 x.2.2.1, .int .i64 x.2.2.2.1, .bool x.2.2.2.2]
def cmpP (x y : PT) : Int := Go.Lib.compareInt x.1 y.1
set_option maxHeartbeats 1000000 in
theorem closeP (x y : PT) (W : World) : Calls Tryz.prog 45 #[.agg (encP x).toArray, .agg (encP y).toArray] W fun e w' => e = .returned (.int .i64 (cmpP x y)) ∧ ∃ q os', w' = Go.Sort.grow (W.drewN q) os' := by
  have hcon := fun W' => Go.Proofs.AnyG.cmp_Compare_int cmpI x.1 y.1 W'
  change ∀ W', Calls Tryz.prog 46 _ _ _ at hcon
  unfold cmpP encP
  generalize Go.Lib.compareInt x.1 y.1 = r at hcon ⊢
  go_enter Tryz.func45, Tryz.ntmps45
  go_wp2_with (go_at_call 46; refine (hcon _).mono ?_; rintro e w' ⟨rfl, rfl⟩)
  go_ret
  exact ⟨rfl, 0, _, by rw [Go.Sort.alloc_eq_grow, Go.Sort.alloc_eq_grow, Go.Sort.grow_grow]; rfl⟩
end Go.Proofs.YtkeijldfblgeaaaGreat
namespace Go.Proofs.YtkeijldfblgeaaaGreat
open Go.RowKit
set_option linter.unusedVariables false
open Go.Sort Go.Shelf Go.Lib
theorem heap_laid {α : Type} [Inhabited α] (enc : α → Value) {w : World} {g n : Nat} {os : Array Obj} {cur : Array Value} {e : TypeId} {fr : Nat × Nat} (d : Array α) (hb : w.heap[g]? = some (.cells cur e fr)) :
    (grow (putRow enc (Go.Sort.ahead w n) g 0 d) os).heap[g]? = some (.cells (putCells enc 0 d cur) e fr) := by
  have hg : g < w.heap.size := (Array.getElem?_eq_some_iff.1 hb).1
  rw [heap_grow_old _ _ (by simpa using hg)]
  simp [putRow, mapBlock, Go.Sort.ahead, Array.getElem?_modify, hb, onCells]
theorem grown_laid {α : Type} [Inhabited α] (enc : α → Value) {w : World} {g n : Nat} {os : Array Obj} (d : Array α) : w.grownBy (grow (putRow enc (Go.Sort.ahead w n) g 0 d) os) (some g) := by
  refine ⟨rfl, rfl, rfl, by simp, fun k hk hne => ?_⟩
  rw [heap_grow_old _ _ (by simpa using hk)]
  have : g ≠ k := fun e => hne (by rw [e])
  simp [putRow, mapBlock, Go.Sort.ahead, Array.getElem?_modify, this]
theorem take_laid {α : Type} [Inhabited α] (enc : α → Value) (cur : Array Value) (ts : List α) (h : ts.length ≤ cur.size) : (putCells enc 0 ts.toArray cur).toList.take ts.length = ts.map enc := by
  apply List.ext_getElem?
  intro j
  by_cases hj : j < ts.length
  · rw [List.getElem?_take_of_lt hj, Array.getElem?_toList]
    simp [putCells, hj, show j < cur.size by omega]
  · rw [List.getElem?_take_eq_none (by omega), List.getElem?_eq_none (by simp; omega)]
theorem own_laid {α : Type} [Inhabited α] (enc : α → Value) {w : World} {base g cap n N s : Nat} {e : TypeId} {os : Array Obj} {cur : Array Value} {ts : List α} (hl : ts.length = N * s) (hbase : base ≤ g) (hb : w.heap[g]? = some (.cells cur e (0, 0))) (h1 : N ≤ cap) (h2 : cap ≤ maxLen) (h3 : cur.size = cap * s) :
    (grow (putRow enc (Go.Sort.ahead w n) g 0 ts.toArray) os).ownsRow base e s (.slice (some ⟨g, 0, none⟩) N cap) N (ts.map enc) :=
  ⟨by simp [hl], .inr ⟨g, cap, _, rfl, hbase, heap_laid enc _ hb, h1, h2, by simp [putCells, h3], by rw [← hl]; exact take_laid enc cur ts (by rw [hl, h3]; exact Nat.mul_le_mul_right _ h1)⟩⟩
theorem holds_laid {α : Type} [Inhabited α] (enc : α → Value) {w : World} {g N : Nat} {cur : Array Value} {e : TypeId} {ss : List α} (hN : ss.length = N) (hb : w.heap[g]? = some (.cells cur e (0, 0))) (ht : cur.toList.take N = ss.map enc) : Holds enc w g 0 ss.toArray := by
  subst hN
  intro j hj
  have hj' : j < ss.length := by simpa using hj
  refine ⟨?_, by simp [World.frozen?, hb]⟩
  have h1 : (cur.toList.take ss.length)[j]? = (ss.map enc)[j]? := by rw [ht]
  rw [List.getElem?_take_of_lt hj'] at h1
  simp only [World.cell?, hb, Nat.zero_add]
  simp only [Option.isSome_none, Bool.false_eq_true, if_false]
  rw [← Array.getElem?_toList, h1]
  simp [hj']
instance : Inhabited PT := ⟨zP⟩
theorem encP_at (p : PT) (j : Nat) (hj : j < 5) : (encP p)[j]! = MCPeer p j := by
  match j, hj with
  | 0, _ => rfl
  | 1, _ => rfl
  | 2, _ => rfl
  | 3, _ => rfl
  | 4, _ => rfl
theorem flat_prow (L : List PT) : flatK encP 5 L.toArray = (prow L).toArray := by
  apply Array.ext
  · simp [prow]
  · intro t h1 h2
    have ht : t < L.length * 5 := by simpa using h1
    simp only [flatK, Array.getElem_map, Array.getElem_range]
    simp only [prow, List.getElem_toArray, List.getElem_map, List.getElem_range]
    rw [encP_at _ _ (Nat.mod_lt _ (by decide)), MFPeer]
    congr 1
    have hd : t / 5 < L.length := by omega
    simp [gP, hd]
theorem prow_len (L : List PT) : (prow L).length = L.length * 5 := by simp [prow]
theorem ltP (x y : PT) : ltOf cmpP x y = decide (x.1 < y.1) := by
  unfold ltOf cmpP Go.Lib.compareInt
  by_cases h1 : x.1 < y.1
  · simp [h1]
  · by_cases h2 : y.1 < x.1 <;> simp [h1, h2]
theorem swoP : SWO (ltOf cmpP) where
  irrefl x := by rw [ltP]; simp
  trans x y z h1 h2 := by rw [ltP] at *; simp at *; omega
  ntrans x y z h1 h2 := by rw [ltP] at *; simp at *; omega
theorem sorted_list {F : Int → Option PT} {L acc : List PT} (hF : FLP F L) (hp : acc.Perm L) {d : Array PT} (h1 : PermIn 0 acc.toArray.size acc.toArray d) (h2 : SortedIn (ltOf cmpP) 0 acc.toArray.size d) : d.toList = L := by
  obtain ⟨e1, _, e3⟩ := h1
  have q1 : d.toList.Perm acc := by
    have : d.extract 0 acc.toArray.size = d := by rw [← e1]; simp
    rw [this] at e3
    simpa using e3
  refine hF.sorted (q1.trans hp) ?_
  rw [List.pairwise_iff_getElem]
  intro i j hi hj hij
  have h := h2 i j (Nat.zero_le _) hij (by rw [← e1]; simpa using hj)
  rw [ltP] at h
  have a1 : d[i]! = d.toList[i] := by simp [getElem!_pos d i (by simpa using hi)]
  have a2 : d[j]! = d.toList[j] := by simp [getElem!_pos d j (by simpa using hj)]
  rw [a1, a2] at h
  simpa using h
theorem aggP (w : World) : (isAgg 35).run Tryz.prog w = .ok true w := by kernel_rfl
theorem sizP (w : World) : (Go.sizeOf 35).run Tryz.prog w = .ok 5 w := by kernel_rfl
theorem sortP_any {F : Int → Option PT} {L acc : List PT} (hF : FLP F L) (hp : acc.Perm L) (base g cap : Nat) (w : World) (hown : w.ownsRow base 35 5 (.slice (some ⟨g, 0, none⟩) acc.length cap) acc.length (prow acc)) (h12 : acc.length ≤ 12) :
    Calls Tryz.prog 44 #[.slice (some ⟨g, 0, none⟩) acc.length cap, .func (.func 45) #[] #[]] w fun e w' => e = .returned (.tuple #[]) ∧ w'.ownsRow base 35 5 (.slice (some ⟨g, 0, none⟩) acc.length cap) L.length (prow L) ∧ w.grownBy w' (some g) := by
  rcases hown.2 with ⟨he, _⟩ | ⟨g', cap', cur, he, hbase, hb, h1, h2, h3, h4⟩
  · simp at he
  simp at he
  obtain ⟨rfl, rfl⟩ := he
  have eg : ∀ args w, (callFunc 45 args).run Tryz.prog w = .ok (.enter 45 args) w := enters_of Tryz.func45 (by kernel_rfl) rfl
  have hH : HoldsK encP 5 w g 0 acc.toArray := by
    rw [HoldsK, flat_prow]
    exact holds_laid id (by rw [prow_len]) hb (by rw [List.map_id]; exact h4)
  have hcon := Go.Proofs.AnyQ.slices_SortFunc_small_sorted sortF 5 aggP sizP encP (fun _ => rfl) (fun x v hv => by simp [encP] at hv; rcases hv with rfl | rfl | rfl | rfl | rfl <;> rfl) cmpP 45 #[] swoP g 0 cap acc.toArray w eg (fun m os dk _ x y => closeP x y _) hH ((Array.getElem?_eq_some_iff.1 hb).1) (by simpa using h12) bitsLen10
  change Calls Tryz.prog 44 _ _ _ at hcon
  rw [show acc.toArray.size = acc.length by simp] at hcon
  refine hcon.mono ?_
  rintro e w' ⟨rfl, d', n, os, p1, p2, rfl⟩
  have hd : d'.toList = L := sorted_list hF hp (by simpa using p1) (by simpa using p2)
  have hd' : d' = L.toArray := by rw [← hd]
  subst hd'
  have hlen := hp.length_eq
  refine ⟨rfl, ?_, ?_⟩
  · have q := own_laid id (n := n) (os := os) (ts := prow L) (N := L.length) (s := 5) (by rw [prow_len]) hbase hb (by omega) h2 h3
    rw [List.map_id, ← flat_prow] at q
    rw [hlen]
    exact q
  · exact grown_laid id _
end Go.Proofs.YtkeijldfblgeaaaGreat
namespace Go.Proofs.YtkeijldfblgeaaaGreat
open Go.RowKit
set_option linter.unusedVariables false
theorem pv_inj {a b : PT} (h : pv a = pv b) : a = b := by
  obtain ⟨a0, a1, a2, a3, a4⟩ := a
  obtain ⟨b0, b1, b2, b3, b4⟩ := b
  simp [pv] at h
  obtain ⟨rfl, rfl, rfl, rfl, rfl⟩ := h
  rfl
theorem met_one {F : Int → Option PT} {D : DataW Value} {x : Int} {c : PT} {y : DataW Value × List MemPlace} (hD : ∀ z, D.atKey (.int .i64 x) z = atP (F x) z) (hv : R0p (pv c) = some y) (hat : ∀ zd, D.atKey (.int .i64 x) zd = y.1) : F x = some c := by
  obtain ⟨d, ps⟩ := y
  have e := (R0p_inv hv).2
  cases hx : F x with
  | none =>
    have q := (hD (.lit (.int .i64 0))).symm.trans (hat (.lit (.int .i64 0)))
    rw [hx] at q
    simp only [atP] at q
    rw [← e] at q
    cases q
  | some p =>
    have q := (hD (.lit (.int .i64 0))).symm.trans (hat (.lit (.int .i64 0)))
    rw [hx] at q
    simp only [atP] at q
    rw [← e] at q
    simp only [DataW.held.injEq] at q
    rw [pv_inj q]
theorem invKp : ∀ key kl, keyOf Tryz.prog 3 key = some kl → ∃ x, key = Value.int .i64 x := fun key kl hk => by
  obtain ⟨x, rfl, _⟩ := Maps.keyOf_int_inv Tryz.underlying3 hk
  exact ⟨x, rfl⟩
def pvU (c : Unit → PT) : Value := pv (c ())
theorem invVp : ∀ v y, R0p v = some y → ∃ c, v = pvU c := fun v y hv => by
  obtain ⟨y1, y2⟩ := y
  obtain ⟨c, hc⟩ := (R0p_inv hv).1
  exact ⟨fun _ => c, hc⟩
theorem mk_cap (m : Nat) (h : m ≤ 64) (w : World) : (Instr.makeSlice 24 (.int .i64 0) (.int .i64 (m : Int))).run Tryz.prog w = .ok (.slice (some ⟨w.heap.size, 0, none⟩) 0 m) (w.alloc (rowObjPeer m)) := by
  obtain ⟨i, hi, hz⟩ := Option.map_eq_some_iff.1 infoPeer
  simp only [Prod.mk.injEq] at hz
  obtain ⟨h1, h2, h3⟩ := hz
  have hr := run_make (P := Tryz.prog) w 24 35 i _ Tryz.underlying24 hi h1 .i64 .i64 0 m (by omega) (by omega) (by rw [h3]; omega) (by omega)
  simp only [Int.toNat_natCast, h2] at hr
  exact hr
theorem own_cap (m : Nat) (h : m ≤ 64) (w : World) : (w.alloc (rowObjPeer m)).ownsRow w.heap.size 35 5 (.slice (some ⟨w.heap.size, 0, none⟩) 0 m) ([] : List PT).length (prow []) := World.ownsRow_made w _ m (Nat.le_refl _) (by unfold maxLen; omega) (size_madeCells _ _)
theorem not_nil {w : World} {base s n : Nat} {T : TypeId} {v : Value} {xs : List Value} (h : w.ownsRow base T s v n xs) (hn : 0 < n) : v ≠ .slice none 0 0 := fun e => by
  rcases h.2 with ⟨_, h0⟩ | ⟨g, cap, cur, he, _⟩
  · omega
  · rw [he] at e; simp at e
theorem own_base {w : World} {base base' s n : Nat} {T : TypeId} {v : Value} {xs : List Value} (h : w.ownsRow base' T s v n xs) (hb : base ≤ base') : w.ownsRow base T s v n xs := by
  refine ⟨h.1, ?_⟩
  rcases h.2 with q | ⟨g, cap, cur, h1, h2, h3⟩
  · exact .inl q
  · exact .inr ⟨g, cap, cur, h1, Nat.le_trans hb h2, h3⟩
theorem ne_blk {o : Option Nat} {r : Nat} (h : ∀ g, o = some g → g ≠ r) : o = none ∨ o ≠ some r := by
  cases o with
  | none => exact .inl rfl
  | some g => exact .inr (fun e => h g rfl (Option.some.inj e))
set_option maxRecDepth 100000 in
set_option maxHeartbeats 8000000 in
theorem list_any (b n : Nat) (F : Int → Option PT) (L : List PT) (w : World) (MP : MapP w b n F) (hF : FLP F L) (h9 : L.length ≤ 9) :
    Calls Tryz.prog 23 #[.map (some b)] w fun e w' => ∃ v, e = .returned v ∧ w'.ownsRow w.heap.size 35 5 v L.length (prow L) ∧ Below w.heap.size w w' := by
  have hlen := MP.len hF
  have hmk := mk_cap L.length (by omega) w
  have O0 := own_cap L.length (by omega) w
  have B0 := Below.nw w (rowObjPeer L.length)
  obtain ⟨D, hown, hD, hsz⟩ := (MP.below B0).sized hF
  have hbl : b < w.heap.size := MP.lt
  have HF : Hid (FLP F L) := hF
  have HD : Hid (∀ x, (∀ z, D.atKey (.int .i64 x) z = atP (F x) z) ∧ Maps.has D (.int .i64 x) = (F x).isSome) := hD
  clear MP hF hD
  go_enter Tryz.func23, Tryz.ntmps23
  go_upto_region 2 with fail
  clear hmk hlen
  have hs1 : (w.alloc (rowObjPeer L.length)).heap.size = w.heap.size + 1 := by simp
  generalize w.alloc (rowObjPeer L.length) = w1 at *
  go_wp2_with (first
    | (at_range; refine wpList_range_own _ rfl _ 51 rfl 3 35 lawPk Tryz.underlying51 _ b n D rfl hown ?_; intro w0 hrg0 hg0 hs0))
  go_frame
  have B1 := B0.trans ((grown_bel hg0 (Nat.le_refl _) (by simp)).mono B0.size)
  have O1 := World.ownsRow.kept O0 hg0 (.inr (by simp [Value.ownBlock]))
  have hrs : w.heap.size < w1.heap.size := by omega
  clear hown hg0 hs0 O0 B0 hs1
  generalize w1.heap.size = r at *
  go_loopw [3] (fun v wr => ∃ (left : Lit → Bool) (cnt : Nat) (acc : List PT), wr.ranges Tryz.prog 3 R0p b r n D left cnt ∧ Met F left acc ∧ acc.length + cnt ≤ L.length ∧ wr.ownsRow w.heap.size 35 5 v acc.length (prow acc) ∧ v ≠ .slice none 0 0 ∧ (∀ g, v.ownBlock = some g → g ≠ r) ∧ Below w.heap.size w wr)
    (fun _ wr => wr.rangeLeft b r)
  case atStart =>
    refine ⟨_, _, [], hrg0, ⟨List.nodup_nil, fun q => ⟨fun h => by simp at h, fun ⟨h1, h2⟩ => ?_⟩⟩, by simp [hsz], O1, by simp, fun g hg => by simp [Value.ownBlock] at hg; omega, B1⟩
    rw [(HD.out q.1).2, h1] at h2
    cases h2
  case round =>
    obtain ⟨left, cnt, acc, hrg, hM, hc, OW, hnn, hne, hB⟩ := hrel
    have HM : Hid (Met F left acc) := hM
    clear hM
    have hBs := hB.size
    go_wp2_with (first
      | (at_next; (refine wpList_next_ranges _ rfl _ rfl 3 lawPk R0p (Value.int .i64) pvU invKp invVp b r n _ _ _ rfl hrg ?_ ?_)))
    · intro _ hl0
      have hp : acc.Perm L := HM.out.perm HF.out hl0
      have CP : Hid _ := fun g cap w' h => sortP_any HF.out hp w.heap.size g cap w' h (by omega)
      rcases OW.2 with ⟨he, _⟩ | ⟨g, cap, cur, rfl, hbase, _⟩
      · exact absurd he hnn
      clear hnn hne hrg
      go_wp2_with fail
      refine (CP.out g cap _ OW).mono ?_
      rintro e w9 ⟨rfl, O9, hg9⟩
      have B9 := hB.trans ((But.ofGrownK hg9).below hbase hBs)
      clear CP hg9
      go_wp2_with fail
      go_ret
      exact ⟨_, rfl, O9, B9⟩
    · intro x cf kl yd yp w2 cnt1 hkey hlk hv hat hrg1 hlt hg1 hs1 hen
      simp only [pvU] at hv hen ⊢
      generalize cf () = c at *
      obtain ⟨x', ex, rfl, _⟩ := Maps.keyOf_int_inv Tryz.underlying3 hkey
      obtain rfl : x = x' := by simpa using ex
      have hFx : F x = some c := met_one (HD.out x).1 hv hat
      have hx1 : c.1 = x := ((HF.out.2 x c).1 hFx).2
      have HM1 : Hid (Met F (fun z => left z && !z.sameKey (.int .i64 x)) (acc ++ [c])) := by
        subst hx1
        exact HM.out.step hFx hlk
      have HLE : Hid (wr.rangeLeft b r = cnt) := hrg.left_eq
      obtain ⟨y0, y1, y2, y3, y4⟩ := c
      have O2 := World.ownsRow.kept OW hg1 (ne_blk hne)
      have B2 := hB.trans (grown_bel hg1 hBs (fun q hq e => by have := Option.some.inj e; omega))
      clear hkey hlk hv hat hg1 hs1 OW hB hrg HM hFx hx1
      simp only [pv] at hen ⊢
      have A1 := Below.nw w2 (.cells #[.int .i64 y0, .int .i64 y1, .int .i64 y2, .int .i64 y3, .bool y4] 35)
      have KB := Bx5.new w2 (.int .i64 y0) (.int .i64 y1) (.int .i64 y2) (.int .i64 y3) (.bool y4) 35
      have hr3 := hrg1.alloc (.cells #[.int .i64 y0, .int .i64 y1, .int .i64 y2, .int .i64 y3, .bool y4] 35)
      replace O2 := own_belK' O2 A1
      replace B2 := B2.trans (A1.mono B2.size)
      clear hrg1
      go_upto_region 5 with fail
      clear hen A1
      generalize hbk : w2.heap.size = bk at *
      generalize w2.alloc (.cells #[.int .i64 y0, .int .i64 y1, .int .i64 y2, .int .i64 y3, .bool y4] 35) = w3 at *
      obtain ⟨k9, k0, k1, k2, k3, k4, f0, f1, f2, f3, f4⟩ := id KB
      have hBs2 := B2.size
      have hlr := hr3.lt
      go_wp2_with (at_builtin; refine add_peer rfl _ _ rfl w.heap.size acc _ rfl O2 rfl (by omega) (by omega) ?_; intro v' w9 O9 hg9 hn9)
      have HO9 : Hid (w9.ownsRow w.heap.size 35 5 v' (acc ++ [(y0, y1, y2, y3, y4)]).length (prow (acc ++ [(y0, y1, y2, y3, y4)]))) := O9
      have B9 := B2.trans (grown_belowK O2 hg9 hBs2)
      have hr9 := hr3.kept hg9 (fun e => by have := (World.ownsRow.lt O2 b e.symm).1; omega) (fun e => hne _ e.symm rfl)
      have HN9 : Hid (∀ g, v'.ownBlock = some g → g ≠ r) := fun g hg => by
        rcases hn9 g hg with q | q
        · exact hne g q
        · omega
      have HV : Hid (v' ≠ .slice none 0 0) := not_nil HO9.out (by simp)
      clear O9 hg9 hn9 O2 B2 hr3 k9 k0 k1 k2 k3 k4 f0 f1 f2 f3 f4 KB
      go_wp2_with fail
      go_roundw
      case rel => exact ⟨_, cnt1, acc ++ [(y0, y1, y2, y3, y4)], hr9, HM1.out, by simp; omega, HO9.out, HV.out, HN9.out, B9⟩
      case measure => rw [hr9.left_eq, HLE.out]; exact hlt
end Go.Proofs.YtkeijldfblgeaaaGreat
namespace Go.Proofs.YtkeijldfblgeaaaGreat
open Go.RowKit
set_option linter.unusedVariables false
end Go.Proofs.YtkeijldfblgeaaaGreat
namespace Go.Proofs.YtkeijldfblgeaaaGreat
open Go.RowKit
set_option linter.unusedVariables false
theorem look_nilP (w : World) (x : Int) (ok : Bool) : (Instr.lookup 51 (.map none) (.int .i64 x) ok).run Tryz.prog w = .ok (if ok then .tuple #[pv zP, .bool false] else pv zP) w := by
  cases ok
  · kernel_rfl
  · kernel_rfl
theorem drA_lk {M : Nat → PT} {n : Nat} (h : oks M n = true) (x : Int) : drA M x n = if (lkP M n x).isSome then 0 else 2 := by
  unfold drA
  have e : ((lst M n).any fun p => p.1 == x) = (lkP M n x).isSome := by
    rw [Bool.eq_iff_iff, List.any_eq_true]
    constructor
    · rintro ⟨q, hq, he⟩
      have := ((FLP.ofLst h).2 x q).2 ⟨hq, by simpa using he⟩
      rw [this]; rfl
    · intro hs
      obtain ⟨q, hq⟩ := Option.isSome_iff_exists.1 hs
      have := ((FLP.ofLst h).2 x q).1 hq
      exact ⟨q, this.1, by simpa using this.2⟩
  rw [e]
theorem drC_none {M : Nat → PT} {n : Nat} (h : oks M n = true) {x : Int} (hx : lkP M n x = none) : drC M n x = 2 := by rw [(drL_t h).2, drA_lk h, hx]; rfl
theorem drC_some {M : Nat → PT} {n : Nat} (h : oks M n = true) {x : Int} {p : PT} (hx : lkP M n x = some p) : drC M n x = 0 := by rw [(drL_t h).2, drA_lk h, hx]; rfl
theorem agO_lo {y : Int} {p : PT} (h : y < p.2.2.2.1) : agO y (some p) = -1 := by
  show imx (y - p.2.2.2.1) (-1) = -1
  unfold imx
  split <;> omega
theorem agO_hi {y : Int} {p : PT} (h : ¬ y < p.2.2.2.1) : agO y (some p) = y - p.2.2.2.1 := by
  show imx (y - p.2.2.2.1) (-1) = _
  unfold imx
  split <;> omega
end Go.Proofs.YtkeijldfblgeaaaGreat
namespace Go.Proofs.YtkeijldfblgeaaaGreat
open Go.RowKit
set_option linter.unusedVariables false
def skB (M : Nat → PT) (x : Int) (k : Nat) : Bool := ((lkP M k x).getD zP).2.2.2.2
theorem skB_yes {M : Nat → PT} {x : Int} {k : Nat} (h : (M k).1 = x) : skB M x (k + 1) = (M k).2.2.2.2 := by rw [skB, lkP, if_pos h]; rfl
theorem skB_no {M : Nat → PT} {x : Int} {k : Nat} (h : (M k).1 ≠ x) : skB M x (k + 1) = skB M x k := by rw [skB, lkP, if_neg h]; rfl
def ptA (M : Nat → PT) (x : Int) (k : Nat) : Bool := (lst M k).any fun q => decide (x ≤ q.1)
def pt1 (x : Int) (L : List PT) : List PT := L.filter fun q => decide (q.1 < x)
def pt2 (x : Int) (L : List PT) : List PT := L.filter fun q => decide (x < q.1)
def poN (M : Nat → PT) (p : PT) (k : Nat) : List PT := pt1 p.1 (lst M k) ++ (if ptA M p.1 k then [p] else []) ++ pt2 p.1 (lst M k)
def pinL (L : List PT) (p : PT) : List PT := pt1 p.1 L ++ [p] ++ pt2 p.1 L
theorem ptA_succ (M : Nat → PT) (x : Int) (k : Nat) : ptA M x (k + 1) = (ptA M x k || decide (x ≤ (M k).1)) := by rw [ptA, lst_succ, List.any_append]; simp [ptA]
theorem pt1_succ (M : Nat → PT) (x : Int) (k : Nat) : pt1 x (lst M (k + 1)) = if (M k).1 < x then pt1 x (lst M k) ++ [M k] else pt1 x (lst M k) := by
  rw [pt1, lst_succ, List.filter_append]
  by_cases h : (M k).1 < x <;> simp [pt1, h]
theorem pt2_succ (M : Nat → PT) (x : Int) (k : Nat) : pt2 x (lst M (k + 1)) = if x < (M k).1 then pt2 x (lst M k) ++ [M k] else pt2 x (lst M k) := by
  rw [pt2, lst_succ, List.filter_append]
  by_cases h : x < (M k).1 <;> simp [pt2, h]
theorem ptA_low {M : Nat → PT} {n : Nat} (h : oks M n = true) {x : Int} {k : Nat} (hk : k < n) (hx : (M k).1 ≤ x) : ptA M x k = false := by
  rw [ptA, List.any_eq_false]
  intro q hq
  obtain ⟨j, hj, rfl⟩ := lst_mem.1 hq
  have := oks_asc h hj hk
  simp
  omega
theorem pt2_none {M : Nat → PT} {x : Int} {k : Nat} (h : ptA M x k = false) : pt2 x (lst M k) = [] := by
  rw [ptA, List.any_eq_false] at h
  rw [pt2, List.filter_eq_nil_iff]
  intro q hq
  have := h q hq
  simp at this ⊢
  omega
theorem poN_a {M : Nat → PT} {n : Nat} (h : oks M n = true) {p : PT} {k : Nat} (hk : k < n) (hx : (M k).1 < p.1) : poN M p (k + 1) = poN M p k ++ [M k] ∧ ptA M p.1 (k + 1) = false ∧ ptA M p.1 k = false := by
  have h0 := ptA_low h hk (Int.le_of_lt hx)
  have h1 : ptA M p.1 (k + 1) = false := by rw [ptA_succ, h0]; simp; omega
  refine ⟨?_, h1, h0⟩
  rw [poN, poN, h0, h1, pt2_none h0, pt2_none h1, pt1_succ, if_pos hx]
  simp
theorem poN_b {M : Nat → PT} {n : Nat} (h : oks M n = true) {p : PT} {k : Nat} (hk : k < n) (hx : (M k).1 = p.1) : poN M p (k + 1) = poN M p k ++ [p] ∧ ptA M p.1 (k + 1) = true ∧ ptA M p.1 k = false := by
  have h0 := ptA_low h hk (Int.le_of_eq hx)
  have h1 : ptA M p.1 (k + 1) = true := by rw [ptA_succ, h0, hx]; simp
  refine ⟨?_, h1, h0⟩
  rw [poN, poN, h0, h1, pt2_none h0, pt1_succ, pt2_succ, pt2_none h0, hx]
  simp
theorem poN_c {M : Nat → PT} {p : PT} {k : Nat} (hx : p.1 < (M k).1) (h0 : ptA M p.1 k = true) : poN M p (k + 1) = poN M p k ++ [M k] ∧ ptA M p.1 (k + 1) = true := by
  have h1 : ptA M p.1 (k + 1) = true := by rw [ptA_succ, h0]; simp
  refine ⟨?_, h1⟩
  have h2 : ¬ (M k).1 < p.1 := by omega
  rw [poN, poN, h0, h1, pt1_succ, pt2_succ]
  simp [hx, h2]
theorem poN_d {M : Nat → PT} {p : PT} {k : Nat} (hx : p.1 < (M k).1) (h0 : ptA M p.1 k = false) : poN M p (k + 1) = poN M p k ++ [p] ++ [M k] ∧ ptA M p.1 (k + 1) = true := by
  have h1 : ptA M p.1 (k + 1) = true := by rw [ptA_succ, h0]; simp; omega
  refine ⟨?_, h1⟩
  have h2 : ¬ (M k).1 < p.1 := by omega
  rw [poN, poN, h0, h1, pt1_succ, pt2_succ, pt2_none h0]
  simp [hx, h2]
theorem poN_t {M : Nat → PT} {p : PT} {n : Nat} (h : ptA M p.1 n = true) : pinL (lst M n) p = poN M p n := by rw [pinL, poN, h]; simp
theorem poN_f {M : Nat → PT} {p : PT} {n : Nat} (h : ptA M p.1 n = false) : pinL (lst M n) p = poN M p n ++ [p] := by rw [pinL, poN, h, pt2_none h]; simp
theorem filt_len {M : Nat → PT} {x : Int} : ∀ k, (pt1 x (lst M k)).length + (pt2 x (lst M k)).length ≤ k
  | 0 => by simp [lst, pt1, pt2]
  | k + 1 => by
    have := filt_len (M := M) (x := x) k
    rw [pt1_succ, pt2_succ]
    by_cases h1 : (M k).1 < x
    · rw [if_pos h1, if_neg (by omega)]; simp; omega
    · rw [if_neg h1]
      by_cases h2 : x < (M k).1
      · rw [if_pos h2]; simp; omega
      · rw [if_neg h2]; omega
theorem poN_len (M : Nat → PT) (p : PT) (k : Nat) : (poN M p k).length ≤ k + 1 := by
  have := filt_len (M := M) (x := p.1) k
  rw [poN]
  split <;> simp <;> omega
theorem pinL_len (M : Nat → PT) (p : PT) (k : Nat) : (pinL (lst M k) p).length ≤ k + 1 := by
  have := filt_len (M := M) (x := p.1) k
  rw [pinL]
  simp
  omega
theorem FLP.put {F : Int → Option PT} {L : List PT} (h : FLP F L) (p : PT) : FLP (fun y => if y = p.1 then some p else F y) (pinL L p) := by
  refine ⟨?_, fun y q => ?_⟩
  · rw [pinL, List.append_assoc, List.pairwise_append]
    refine ⟨h.1.filter _, ?_, fun a ha b hb => ?_⟩
    · rw [List.singleton_append, List.pairwise_cons]
      refine ⟨fun a ha => ?_, h.1.filter _⟩
      simp [pt2] at ha
      exact ha.2
    · simp [pt1] at ha
      simp [pt2] at hb
      rcases hb with rfl | hb
      · exact ha.2
      · omega
  · show (if y = p.1 then some p else F y) = some q ↔ _
    simp only [pinL, pt1, pt2, List.mem_append, List.mem_filter, List.mem_singleton, decide_eq_true_eq]
    by_cases e : y = p.1
    · rw [if_pos e]
      constructor
      · intro hh
        injection hh with hh
        subst hh
        exact ⟨.inl (.inr rfl), e.symm⟩
      · rintro ⟨(⟨_, h2⟩ | rfl) | ⟨_, h2⟩, h3⟩
        · omega
        · rfl
        · omega
    · rw [if_neg e, h.2 y q]
      constructor
      · rintro ⟨h1, h2⟩
        rcases Int.lt_trichotomy q.1 p.1 with q1 | q1 | q1
        · exact ⟨.inl (.inl ⟨h1, q1⟩), h2⟩
        · exact absurd (h2.symm.trans q1) e
        · exact ⟨.inr ⟨h1, q1⟩, h2⟩
      · rintro ⟨(⟨h1, _⟩ | rfl) | ⟨h1, _⟩, h3⟩
        · exact ⟨h1, h3⟩
        · exact absurd h3.symm e
        · exact ⟨h1, h3⟩
def ptP (M : Nat → PT) (n : Nat) (x lo hi y : Int) : Bool := oks M n && nodB x && okI lo hi && okT y
def ptL (M : Nat → PT) (n : Nat) (x lo hi y : Int) : List PT := if ptP M n x lo hi y = true then pinL (lst M n) (x, lo, hi, y, skB M x n) else []
def ptC (M : Nat → PT) (n : Nat) (x lo hi y : Int) : Int := if ptP M n x lo hi y = true then 0 else 1
theorem ptL_t {M : Nat → PT} {n : Nat} {x lo hi y : Int} (h : ptP M n x lo hi y = true) : ptL M n x lo hi y = pinL (lst M n) (x, lo, hi, y, skB M x n) ∧ ptC M n x lo hi y = 0 := ⟨if_pos h, if_pos h⟩
theorem ptL_f {M : Nat → PT} {n : Nat} {x lo hi y : Int} (h : ptP M n x lo hi y = false) : ptL M n x lo hi y = [] ∧ ptC M n x lo hi y = 1 := ⟨if_neg (by rw [h]; simp), if_neg (by rw [h]; simp)⟩
theorem PeerPut_len (M : Nat → PT) (n : Nat) (x lo hi y : Int) : (ptL M n x lo hi y).length ≤ 9 := by
  unfold ptL
  split
  · next h =>
    unfold ptP at h
    simp only [Bool.and_eq_true] at h
    have := oks_le h.1.1.1
    have := pinL_len M (x, lo, hi, y, skB M x n) n
    omega
  · simp
theorem field3 (a b c d : Int) (s : Bool) (w : World) : (Instr.field 35 (.agg #[.int .i64 a, .int .i64 b, .int .i64 c, .int .i64 d, .bool s]) 3).run Tryz.prog w = .ok (.bool s) w := by kernel_rfl
end Go.Proofs.YtkeijldfblgeaaaGreat
namespace Go.Proofs.YtkeijldfblgeaaaGreat
open Go.RowKit
set_option linter.unusedVariables false
theorem Bx5.kept {w w' : World} {q : Option Nat} {k : Nat} {u0 u1 u2 u3 u4 : Value} (h : Bx5 w k u0 u1 u2 u3 u4) (hg : w.grownBy w' q) (hq : some k ≠ q) : Bx5 w' k u0 u1 u2 u3 u4 := by
  obtain ⟨h0, h1, h2, h3, h4, h5, f1, f2, f3, f4, f5⟩ := h
  have cc : ∀ i, w'.cell? ⟨k, i, none⟩ = w.cell? ⟨k, i, none⟩ := fun i => cell_grown hg h0 hq
  have ff : ∀ i, w'.frozen? ⟨k, i, none⟩ = w.frozen? ⟨k, i, none⟩ := fun i => by have := hg.block k h0 hq; simp only [World.frozen?]; rw [this]
  exact ⟨Nat.lt_of_lt_of_le h0 hg.size, by rw [cc]; exact h1, by rw [cc]; exact h2, by rw [cc]; exact h3, by rw [cc]; exact h4, by rw [cc]; exact h5, by rw [ff]; exact f1, by rw [ff]; exact f2, by rw [ff]; exact f3, by rw [ff]; exact f4, by rw [ff]; exact f5⟩
end Go.Proofs.YtkeijldfblgeaaaGreat
namespace Go.Proofs.YtkeijldfblgeaaaGreat
open Go.RowKit
set_option linter.unusedVariables false
theorem pickLit (B p : Nat) (w : World) (L : List Int) (hcur : CurOk w B p) (h0 : 0 < L.length) (h1 : L.length ≤ 100) :
    Calls Tryz.prog 31 #[.pointer (some ⟨p, 0, none⟩), .slice (some ⟨w.heap.size, 0, none⟩) L.length L.length] (w.alloc (.cells (L.map (Value.int .i64)).toArray 3)) fun e w' => ∃ v : Int, e = .returned (.int .i64 v) ∧ CurOk w' B p ∧ But p w w' := by
  have hb : Below w.heap.size w (w.alloc (.cells (L.map (Value.int .i64)).toArray 3)) := (Below.refl _ _).alloc (Nat.le_refl _) _
  have hl := hcur.lt
  refine (l1PickInt_any B p w.heap.size 0 L.length L.length _ (hcur.below hb) h0 h1 (by simp) (by omega) (fun j hj => ⟨L[j], by simp [hj]⟩)).mono ?_
  rintro e w' ⟨j, v, hj, _, rfl, hc, hw⟩
  exact ⟨v, rfl, hc, (But.of_below hb).trans hw⟩
set_option maxHeartbeats 1000000 in
theorem l1DrawTime_any (B p : Nat) (w : World) (hcur : CurOk w B p) :
    Calls Tryz.prog 36 #[.pointer (some ⟨p, 0, none⟩)] w fun e w' => ∃ v : Int, e = .returned (.int .i64 v) ∧ CurOk w' B p ∧ But p w w' := by
  go_enter Tryz.func36, Tryz.ntmps36
  go_wp2_with fail
  refine (l1Below_any B p 12 _ hcur).mono ?_; rintro e w1 ⟨x, rfl, xl, xh, xp, xz, w1c, w1b⟩
  clear xp xz
  cases hx0 : (x == 0)
  · cases hx1 : (x == 1)
    · go_wp2_with fail
      refine (l1Below_any B p 120 _ w1c).mono ?_; rintro e w2 ⟨y, rfl, yl, yh, yp, yz, w2c, w2b⟩
      clear yp yz
      go_wp2_with fail
      go_ret
      exact ⟨_, rfl, w2c, w1b.trans w2b⟩
    · go_wp2_with fail
      refine (l1Below_any B p 1000000000 _ w1c).mono ?_; rintro e w2 ⟨y, rfl, yl, yh, yp, yz, w2c, w2b⟩
      clear yp yz
      go_wp2_with fail
      have hp := pickLit B p w2 [1, -1, 900] w2c (by decide) (by decide); simp only [List.map_cons, List.map_nil, List.length_cons, List.length_nil, Nat.zero_add, Nat.reduceAdd] at hp; refine hp.mono ?_; clear hp; rintro e w3 ⟨v, rfl, w3c, w3b⟩
      go_wp2_with fail
      go_ret
      exact ⟨_, rfl, w3c, (w1b.trans w2b).trans w3b⟩
  · go_wp2_with fail
    have hp := pickLit B p w1 [-1000000000000, 1000000000000, 999999999999, -999999999999, 0] w1c (by decide) (by decide); simp only [List.map_cons, List.map_nil, List.length_cons, List.length_nil, Nat.zero_add, Nat.reduceAdd] at hp; refine hp.mono ?_; clear hp; rintro e w3 ⟨v, rfl, w3c, w3b⟩
    go_wp2_with fail
    go_ret
    exact ⟨_, rfl, w3c, w1b.trans w3b⟩
def imnD (x y : Int) : Int := if x < y then x else y
set_option maxHeartbeats 400000 in
theorem l1MinD (x y : Int) (w : World) :
    Calls Tryz.prog 37 #[.int .i64 x, .int .i64 y] w fun e w' => ∃ v : Int, e = .returned (.int .i64 v) ∧ w = w' := by
  go_enter Tryz.func37, Tryz.ntmps37
  go_wp2
  all_goals go_ret
  all_goals exact ⟨_, rfl, rfl⟩
theorem CurOk.setOther {w : World} {B p : Nat} (h : CurOk w B p) {k : Nat} (hk : k ≠ p) (hB : B ≤ k) (o : Nat) (u : Value) : CurOk (w.setCell ⟨k, o, none⟩ u) B p := by
  obtain ⟨a, n, c, i, hh, h0, h1, h2, f0, f1, f2, hi, hn, hc, hBp, hp⟩ := h
  have hne : ∀ q, (⟨k, o, none⟩ : Addr) ≠ ⟨p, q, none⟩ := fun q e => hk (congrArg Addr.block e)
  refine ⟨a, n, c, i, hh, ?_, ?_, ?_, by simpa using f0, by simpa using f1, by simpa using f2, hi, hn, hc.below ((Below.refl _ _).setCell hB _), hBp, by simpa using hp⟩
  · rw [World.cell?_setCell_other _ _ _ _ (hne _)]; exact h0
  · rw [World.cell?_setCell_other _ _ _ _ (hne _)]; exact h1
  · rw [World.cell?_setCell_other _ _ _ _ (hne _)]; exact h2
theorem But.setNew {p : Nat} {a w : World} (h : But p a w) {k : Nat} (hk : a.heap.size ≤ k) (o : Nat) (u : Value) : But p a (w.setCell ⟨k, o, none⟩ u) :=
  ⟨h.1, h.2.1, h.2.2.1, by rw [World.size_setCell]; exact h.2.2.2.1, fun j hj hp => (Below.heap_setCell w ⟨k, o, none⟩ u j (by simp; omega)).trans (h.2.2.2.2 j hj hp)⟩
theorem But.alloc {p : Nat} {a w : World} (h : But p a w) (o : Obj) : But p a (w.alloc o) :=
  h.trans (But.of_below ((Below.refl _ _).alloc (Nat.le_refl _) _))
set_option maxHeartbeats 3200000 in
theorem l1DrawIval_any (B p : Nat) (w : World) (hcur : CurOk w B p) :
    Calls Tryz.prog 17 #[.pointer (some ⟨p, 0, none⟩)] w fun e w' => ∃ x y : Int, e = .returned (.agg #[.int .i64 x, .int .i64 y]) ∧ CurOk w' B p ∧ But p w w' := by
  have hpl := hcur.lt
  have hpw : w.heap.size ≠ p := by omega
  have A1 : Below w.heap.size w (w.alloc (.cells #[.int .i64 0, .int .i64 0] 28)) := (Below.refl _ _).alloc (Nat.le_refl _) _
  go_enter Tryz.func17, Tryz.ntmps17
  go_wp2_with fail
  refine (l1DrawTime_any B p _ (by exact hcur.below A1)).mono ?_
  rintro e w1 ⟨lo, rfl, w1c, w1b⟩
  have s1 : w.heap.size + 1 ≤ w1.heap.size := by have := w1b.2.2.2.1; simpa using this
  have r10 : w1.cell? ⟨w.heap.size, 0, none⟩ = some (.int .i64 0) := by rw [w1b.cell (by simp) hpw]; simp [go_sem]
  have r11 : w1.cell? ⟨w.heap.size, 1, none⟩ = some (.int .i64 0) := by rw [w1b.cell (by simp) hpw]; simp [go_sem]
  have q10 : w1.frozen? ⟨w.heap.size, 0, none⟩ = false := by rw [w1b.frozen (by simp) hpw]; simp [go_sem]
  have q11 : w1.frozen? ⟨w.heap.size, 1, none⟩ = false := by rw [w1b.frozen (by simp) hpw]; simp [go_sem]
  have b1 : But p w w1 := (But.of_below A1).trans w1b
  go_wp2_with fail
  refine (l1Below_any B p 60 _ w1c).mono ?_; rintro e w2 ⟨x, rfl, xl, xh, xp, xz, w2c, w2b⟩
  clear xp xz
  have s2 : w1.heap.size ≤ w2.heap.size := w2b.2.2.2.1
  have l2 : w.heap.size < w2.heap.size := by omega
  have r20 : w2.cell? ⟨w.heap.size, 0, none⟩ = some (.int .i64 0) := by rw [w2b.cell (by omega) hpw]; exact r10
  have r21 : w2.cell? ⟨w.heap.size, 1, none⟩ = some (.int .i64 0) := by rw [w2b.cell (by omega) hpw]; exact r11
  have q20 : w2.frozen? ⟨w.heap.size, 0, none⟩ = false := by rw [w2b.frozen (by omega) hpw]; exact q10
  have q21 : w2.frozen? ⟨w.heap.size, 1, none⟩ = false := by rw [w2b.frozen (by omega) hpw]; exact q11
  have b2 : But p w w2 := b1.trans w2b
  clear r10 r11 q10 q11
  go_wp2_with fail
  refine (l1MinD _ _ _).mono ?_
  rintro e w' ⟨hi, rfl, rfl⟩
  go_wp2_with fail
  have hpl2 := w2c.lt
  have A2 : Below w2.heap.size w2 (w2.alloc (.cells #[.int .i64 lo, .int .i64 hi] 28)) := (Below.refl _ _).alloc (Nat.le_refl _) _
  have hkp : w2.heap.size ≠ p := by omega
  refine (l1Below_any B p 30 _ (by exact w2c.below A2)).mono ?_
  rintro e w3 ⟨y, rfl, yl, yh, yp, yz, w3c, w3b⟩
  clear yp yz
  have s3 : w2.heap.size + 1 ≤ w3.heap.size := by have := w3b.2.2.2.1; simpa using this
  have l3 : w.heap.size < w3.heap.size := by omega
  have k3 : w2.heap.size < w3.heap.size := by omega
  have r30 : w3.cell? ⟨w.heap.size, 0, none⟩ = some (.int .i64 0) := by rw [w3b.cell (by simp; omega) hpw, World.cell?_alloc_lt _ _ _ (by simp; omega)]; exact r20
  have r31 : w3.cell? ⟨w.heap.size, 1, none⟩ = some (.int .i64 0) := by rw [w3b.cell (by simp; omega) hpw, World.cell?_alloc_lt _ _ _ (by simp; omega)]; exact r21
  have q30 : w3.frozen? ⟨w.heap.size, 0, none⟩ = false := by rw [w3b.frozen (by simp; omega) hpw, World.frozen?_alloc_old _ _ _ (by simp; omega)]; exact q20
  have q31 : w3.frozen? ⟨w.heap.size, 1, none⟩ = false := by rw [w3b.frozen (by simp; omega) hpw, World.frozen?_alloc_old _ _ _ (by simp; omega)]; exact q21
  have a30 : w3.cell? ⟨w2.heap.size, 0, none⟩ = some (.int .i64 lo) := by rw [w3b.cell (by simp) hkp]; simp [go_sem]
  have a31 : w3.cell? ⟨w2.heap.size, 1, none⟩ = some (.int .i64 hi) := by rw [w3b.cell (by simp) hkp]; simp [go_sem]
  have z30 : w3.frozen? ⟨w2.heap.size, 0, none⟩ = false := by rw [w3b.frozen (by simp) hkp]; simp [go_sem]
  have z31 : w3.frozen? ⟨w2.heap.size, 1, none⟩ = false := by rw [w3b.frozen (by simp) hkp]; simp [go_sem]
  have b3 : But p w w3 := (b2.alloc _).trans w3b
  have hwk : w.heap.size ≠ w2.heap.size := by omega
  have hBw : B ≤ w.heap.size := by omega
  have hBk : B ≤ w2.heap.size := by omega
  have hwk' : w.heap.size ≤ w2.heap.size := by omega
  clear r20 r21 q20 q21 w1b w2b w3b A1 A2 b1 b2 hcur w1c w2c
  cases hy0 : (y == 0)
  · cases hy1 : (y == 1)
    · cases hy2 : (y == 2)
      · go_wp2_with fail
        exact bodyPost_ret (v := .agg #[.int .i64 lo, .int .i64 hi]) (by simp (maxDischargeDepth := 6) [results, Tryz.results17, go_sem, *]) rfl ⟨_, _, rfl, ((w3c.setOther hpw hBw _ _).setOther hpw hBw _ _), ((b3.setNew (Nat.le_refl _) _ _).setNew (Nat.le_refl _) _ _)⟩
      · go_wp2_with fail
        have hp := pickLit B p w3 [-1000000000000, -1000000000001, -9223372036854775807] w3c (by decide) (by decide); simp only [List.map_cons, List.map_nil, List.length_cons, List.length_nil, Nat.zero_add, Nat.reduceAdd] at hp; refine hp.mono ?_; clear hp; rintro e w4 ⟨v, rfl, w4c, w4b⟩
        have s4 : w3.heap.size ≤ w4.heap.size := w4b.2.2.2.1; (have l4 : w.heap.size < w4.heap.size := by omega); (have k4 : w2.heap.size < w4.heap.size := by omega); (have r40 : w4.cell? ⟨w.heap.size, 0, none⟩ = some (.int .i64 0) := by rw [w4b.cell l3 hpw]; exact r30); (have r41 : w4.cell? ⟨w.heap.size, 1, none⟩ = some (.int .i64 0) := by rw [w4b.cell l3 hpw]; exact r31); (have q40 : w4.frozen? ⟨w.heap.size, 0, none⟩ = false := by rw [w4b.frozen l3 hpw]; exact q30); (have q41 : w4.frozen? ⟨w.heap.size, 1, none⟩ = false := by rw [w4b.frozen l3 hpw]; exact q31); (have a40 : w4.cell? ⟨w2.heap.size, 0, none⟩ = some (.int .i64 lo) := by rw [w4b.cell k3 hkp]; exact a30); (have a41 : w4.cell? ⟨w2.heap.size, 1, none⟩ = some (.int .i64 hi) := by rw [w4b.cell k3 hkp]; exact a31); (have z40 : w4.frozen? ⟨w2.heap.size, 0, none⟩ = false := by rw [w4b.frozen k3 hkp]; exact z30); (have z41 : w4.frozen? ⟨w2.heap.size, 1, none⟩ = false := by rw [w4b.frozen k3 hkp]; exact z31); (have b4 : But p w w4 := b3.trans w4b); clear r30 r31 q30 q31 a30 a31 z30 z31 w4b w3c b3
        go_wp2_with fail
        exact bodyPost_ret (v := .agg #[.int .i64 v, .int .i64 hi]) (by simp (maxDischargeDepth := 6) [results, Tryz.results17, go_sem, *]) rfl ⟨_, _, rfl, (((w4c.setOther hkp hBk _ _).setOther hpw hBw _ _).setOther hpw hBw _ _), (((b4.setNew hwk' _ _).setNew (Nat.le_refl _) _ _).setNew (Nat.le_refl _) _ _)⟩
    · go_wp2_with fail
      have hp := pickLit B p w3 [1000000000000, 1000000000001, 9223372036854775807] w3c (by decide) (by decide); simp only [List.map_cons, List.map_nil, List.length_cons, List.length_nil, Nat.zero_add, Nat.reduceAdd] at hp; refine hp.mono ?_; clear hp; rintro e w4 ⟨v, rfl, w4c, w4b⟩
      have s4 : w3.heap.size ≤ w4.heap.size := w4b.2.2.2.1; (have l4 : w.heap.size < w4.heap.size := by omega); (have k4 : w2.heap.size < w4.heap.size := by omega); (have r40 : w4.cell? ⟨w.heap.size, 0, none⟩ = some (.int .i64 0) := by rw [w4b.cell l3 hpw]; exact r30); (have r41 : w4.cell? ⟨w.heap.size, 1, none⟩ = some (.int .i64 0) := by rw [w4b.cell l3 hpw]; exact r31); (have q40 : w4.frozen? ⟨w.heap.size, 0, none⟩ = false := by rw [w4b.frozen l3 hpw]; exact q30); (have q41 : w4.frozen? ⟨w.heap.size, 1, none⟩ = false := by rw [w4b.frozen l3 hpw]; exact q31); (have a40 : w4.cell? ⟨w2.heap.size, 0, none⟩ = some (.int .i64 lo) := by rw [w4b.cell k3 hkp]; exact a30); (have a41 : w4.cell? ⟨w2.heap.size, 1, none⟩ = some (.int .i64 hi) := by rw [w4b.cell k3 hkp]; exact a31); (have z40 : w4.frozen? ⟨w2.heap.size, 0, none⟩ = false := by rw [w4b.frozen k3 hkp]; exact z30); (have z41 : w4.frozen? ⟨w2.heap.size, 1, none⟩ = false := by rw [w4b.frozen k3 hkp]; exact z31); (have b4 : But p w w4 := b3.trans w4b); clear r30 r31 q30 q31 a30 a31 z30 z31 w4b w3c b3
      go_wp2_with fail
      exact bodyPost_ret (v := .agg #[.int .i64 lo, .int .i64 v]) (by simp (maxDischargeDepth := 6) [results, Tryz.results17, go_sem, *]) rfl ⟨_, _, rfl, (((w4c.setOther hkp hBk _ _).setOther hpw hBw _ _).setOther hpw hBw _ _), (((b4.setNew hwk' _ _).setNew (Nat.le_refl _) _ _).setNew (Nat.le_refl _) _ _)⟩
  · go_wp2_with fail
    exact bodyPost_ret (v := .agg #[.int .i64 lo, .int .i64 (wrap64 (lo - 1))]) (by simp (maxDischargeDepth := 6) [results, Tryz.results17, go_sem, *]) rfl ⟨_, _, rfl, (((w3c.setOther hkp hBk _ _).setOther hpw hBw _ _).setOther hpw hBw _ _), (((b3.setNew hwk' _ _).setNew (Nat.le_refl _) _ _).setNew (Nat.le_refl _) _ _)⟩
end Go.Proofs.YtkeijldfblgeaaaGreat
namespace Go.Proofs.YtkeijldfblgeaaaGreat
open Go.RowKit
set_option linter.unusedVariables false
theorem curNew (w : World) (a : Option Addr) (n c : Nat) (h : Int) (T : TypeId) (hn : n ≤ 1048576) (hcode : CodeB w w.heap.size a n) : CurOk (w.alloc (.cells #[.slice a n c, .int .i64 0, .int .i64 h] T)) w.heap.size w.heap.size :=
  ⟨a, n, c, 0, h, by simp, by simp, by simp, by simp, by simp, by simp, Nat.zero_le _, hn, hcode.below ((Below.refl _ _).alloc (Nat.le_refl _) _), Nat.le_refl _, by simp⟩
set_option maxHeartbeats 1000000 in
theorem l1New_any (a : Option Addr) (n c : Nat) (w : World) (hn : n ≤ 1048576) (hcode : CodeB w w.heap.size a n) :
    Calls Tryz.prog 11 #[.slice a n c] w fun e w' => ∃ p, e = .returned (.pointer (some ⟨p, 0, none⟩)) ∧ CurOk w' w.heap.size p ∧ Below w.heap.size w w' := by
  have HC : Hid (CodeB w w.heap.size a n) := hcode
  clear hcode
  go_enter Tryz.func11, Tryz.ntmps11
  go_wp2_with fail
  go_loop [3, 4] (fun hv i => ∃ k : Nat, ∃ h : Int, k ≤ n ∧ i = .int .i64 k ∧ hv = .int .i64 h) (fun _ i => n - (intOf i).toNat)
  case atStart => exact ⟨0, _, Nat.zero_le _, rfl, rfl⟩
  case round =>
    obtain ⟨k, h, hk, rfl, rfl⟩ := hrel
    by_cases hlt : k < n
    · have hli : (k : Int) < (n : Int) := by omega
      by_cases h4 : (k : Int) < 4000
      · rcases HC.out with h0 | ⟨b, off, rfl, hb, hz⟩
        · omega
        · obtain ⟨z, hz, z0, z1⟩ := hz k hlt
          go_wp2_with fail
          go_round
          case rel => exact ⟨k + 1, _, by omega, by go_num, rfl⟩
          case measure => simp [intOf]; omega
      · have hd : decide ((k : Int) < 4000) = false := by simp; omega
        go_wp2_with fail
        go_ret
        exact ⟨_, rfl, curNew _ _ _ _ _ _ hn HC.out, (Below.refl _ _).alloc (Nat.le_refl _) _⟩
    · have hd : decide ((k : Int) < (n : Int)) = false := by simp; omega
      go_wp2_with fail
      go_ret
      exact ⟨_, rfl, curNew _ _ _ _ _ _ hn HC.out, (Below.refl _ _).alloc (Nat.le_refl _) _⟩
end Go.Proofs.YtkeijldfblgeaaaGreat
namespace Go.Proofs.YtkeijldfblgeaaaGreat
open Go.RowKit
set_option linter.unusedVariables false
theorem CurOk.drew {w : World} {B p : Nat} (h : CurOk w B p) : CurOk w.drew B p := h
theorem But.drew {p : Nat} {a w : World} (h : But p a w) : But p a w.drew := h
def Box (w : World) (k : Nat) (x y : Int) : Prop := k < w.heap.size ∧ w.cell? ⟨k, 0, none⟩ = some (.int .i64 x) ∧ w.cell? ⟨k, 1, none⟩ = some (.int .i64 y) ∧ w.frozen? ⟨k, 0, none⟩ = false ∧ w.frozen? ⟨k, 1, none⟩ = false
theorem Box.but {p k : Nat} {w w' : World} {x y : Int} (h : Box w k x y) (hw : But p w w') (hk : k ≠ p) : Box w' k x y :=
  ⟨Nat.lt_of_lt_of_le h.1 hw.2.2.2.1, by rw [hw.cell h.1 hk]; exact h.2.1, by rw [hw.cell h.1 hk]; exact h.2.2.1, by rw [hw.frozen h.1 hk]; exact h.2.2.2.1, by rw [hw.frozen h.1 hk]; exact h.2.2.2.2⟩
theorem Box.below {k : Nat} {w w' : World} {x y : Int} (h : Box w k x y) (hw : Below w.heap.size w w') : Box w' k x y :=
  ⟨Nat.lt_of_lt_of_le h.1 hw.size, by rw [hw.cell (p := ⟨k, 0, none⟩) h.1]; exact h.2.1, by rw [hw.cell (p := ⟨k, 1, none⟩) h.1]; exact h.2.2.1, by rw [hw.frozen (p := ⟨k, 0, none⟩) h.1]; exact h.2.2.2.1, by rw [hw.frozen (p := ⟨k, 1, none⟩) h.1]; exact h.2.2.2.2⟩
theorem Box.alloc {k : Nat} {w : World} {x y : Int} (h : Box w k x y) (o : Obj) : Box (w.alloc o) k x y := h.below ((Below.refl _ _).alloc (Nat.le_refl _) _)
theorem Box.setOther {k j : Nat} {w : World} {x y : Int} (h : Box w k x y) (hk : j ≠ k) (o : Nat) (u : Value) : Box (w.setCell ⟨j, o, none⟩ u) k x y := by
  have hne : ∀ q, (⟨j, o, none⟩ : Addr) ≠ ⟨k, q, none⟩ := fun q e => hk (congrArg Addr.block e)
  exact ⟨by simpa using h.1, by rw [World.cell?_setCell_other _ _ _ _ (hne _)]; exact h.2.1, by rw [World.cell?_setCell_other _ _ _ _ (hne _)]; exact h.2.2.1, by simpa using h.2.2.2.1, by simpa using h.2.2.2.2⟩
theorem Box.set {k : Nat} {w : World} {x y : Int} (h : Box w k x y) (x' y' : Int) : Box ((w.setCell ⟨k, 0, none⟩ (.int .i64 x')).setCell ⟨k, 1, none⟩ (.int .i64 y')) k x' y' := by
  refine ⟨by simpa using h.1, ?_, ?_, by simpa using h.2.2.2.1, by simpa using h.2.2.2.2⟩
  · rw [World.cell?_setCell_other _ _ _ _ (by simp), World.cell?_setCell_same _ _ _ h.2.1]
  · exact World.cell?_setCell_same _ _ _ (by rw [World.cell?_setCell_other _ _ _ _ (by simp)]; exact h.2.2.1)
theorem Box.new (w : World) (x y : Int) (T : TypeId) : Box (w.alloc (.cells #[.int .i64 x, .int .i64 y] T)) w.heap.size x y := ⟨by simp, by simp, by simp, by simp, by simp⟩
theorem CodeB.more {w : World} {B B' : Nat} {a : Option Addr} {n : Nat} (h : CodeB w B a n) (hB : B ≤ B') : CodeB w B' a n := by
  rcases h with h | ⟨b, off, h1, h2, h3⟩
  · exact .inl h
  · exact .inr ⟨b, off, h1, by omega, h3⟩
/- What a new world holds after an alloc or a store, for go_wp2's simp. -/
theorem Below.al (w : World) (o : Obj) : Below w.heap.size w (w.alloc o) := (Below.refl _ _).alloc (Nat.le_refl _) _
end Go.Proofs.YtkeijldfblgeaaaGreat
namespace Go.Proofs.YtkeijldfblgeaaaGreat
open Go.RowKit
set_option linter.unusedVariables false
set_option maxHeartbeats 1000000 in
theorem l2DrawCount_any (B p : Nat) (w : World) (hcur : CurOk w B p) :
    Calls Tryz.prog 32 #[.pointer (some ⟨p, 0, none⟩)] w fun e w' => ∃ v : Int, e = .returned (.int .i64 v) ∧ CurOk w' B p ∧ But p w w' := by
  go_enter Tryz.func32, Tryz.ntmps32
  go_wp2_with fail
  refine (l1Below_any B p 14 _ hcur).mono ?_; rintro e w1 ⟨x, rfl, xl, xh, xp, xz, w1c, w1b⟩
  clear xp xz
  cases hx0 : (x == 0)
  · cases hx1 : (x == 1)
    · cases hx2 : (x == 2)
      · go_wp2_with fail
        refine (l1Below_any B p 5000 _ w1c).mono ?_; rintro e w2 ⟨y, rfl, yl, yh, yp, yz, w2c, w2b⟩
        clear yp yz
        go_wp2_with fail
        go_ret
        exact ⟨_, rfl, w2c, w1b.trans w2b⟩
      · go_wp2_with fail
        refine (l1Below_any B p 6 _ w1c).mono ?_; rintro e w2 ⟨y, rfl, yl, yh, yp, yz, w2c, w2b⟩
        clear yp yz
        go_wp2_with fail
        go_ret
        exact ⟨_, rfl, w2c, w1b.trans w2b⟩
    · go_wp2_with fail
      refine (l1Below_any B p 1000000000 _ w1c).mono ?_; rintro e w2 ⟨y, rfl, yl, yh, yp, yz, w2c, w2b⟩
      clear yp yz
      go_wp2_with fail
      go_ret
      exact ⟨_, rfl, w2c, w1b.trans w2b⟩
  · go_wp2_with fail
    have hp := pickLit B p w1 [-1, 0, 1000000000000, 1000000000001, 500000000000, 666666666666, 9223372036854775807] w1c (by decide) (by decide); simp only [List.map_cons, List.map_nil, List.length_cons, List.length_nil, Nat.zero_add, Nat.reduceAdd] at hp; refine hp.mono ?_; clear hp; rintro e w3 ⟨v, rfl, w3c, w3b⟩
    go_wp2_with fail
    go_ret
    exact ⟨_, rfl, w3c, w1b.trans w3b⟩
set_option maxHeartbeats 3200000 in
theorem l2DrawDrift_any (B p : Nat) (w : World) (hcur : CurOk w B p) :
    Calls Tryz.prog 33 #[.pointer (some ⟨p, 0, none⟩)] w fun e w' => ∃ x y : Int, e = .returned (.agg #[.int .i64 x, .int .i64 y]) ∧ CurOk w' B p ∧ But p w w' := by
  have hpl := hcur.lt
  have hpw : w.heap.size ≠ p := by omega
  have hBw : B ≤ w.heap.size := by omega
  have A1 : Below w.heap.size w (w.alloc (.cells #[.int .i64 0, .int .i64 0] 26)) := Below.al _ _
  have R0 : Box (w.alloc (.cells #[.int .i64 0, .int .i64 0] 26)) w.heap.size 0 0 := Box.new w 0 0 26
  go_enter Tryz.func33, Tryz.ntmps33
  go_wp2_with fail
  refine (l1Below_any B p 6 _ (by exact hcur.below A1)).mono ?_
  rintro e w1 ⟨x, rfl, xl, xh, xp, xz, w1c, w1b⟩
  have R1 := R0.but w1b hpw
  have b1 : But p w w1 := (But.of_below A1).trans w1b
  clear xp xz R0 A1 w1b
  go_wp2_with fail
  refine (l1Below_any B p 90 _ w1c).mono ?_
  rintro e w2 ⟨y, rfl, yl, yh, yp, yz, w2c, w2b⟩
  have R2 := R1.but w2b hpw
  have b2 : But p w w2 := b1.trans w2b
  have q2 := w2c.lt
  have hk : w2.heap.size ≠ p := by omega
  have A2 : Below w2.heap.size w2 (w2.alloc (.cells #[.int .i64 x, .int .i64 (12 + y)] 26)) := Below.al _ _
  have N2 := Box.new w2 x (12 + y) 26
  clear yp yz R1 b1 w2b w1c
  go_wp2_with fail
  refine (l1Below_any B p 16 _ (by exact w2c.below A2)).mono ?_
  rintro e w3 ⟨z, rfl, zl, zh, zp, zz, w3c, w3b⟩
  have R3 := (R2.below A2).but w3b hpw
  have N3 := N2.but w3b hk
  have b3 : But p w w3 := (b2.alloc _).trans w3b
  have hwk : w.heap.size < w2.heap.size := R2.1
  have hwk' : w.heap.size ≤ w2.heap.size := by omega
  have hBk : B ≤ w2.heap.size := by omega
  have n1 : w.heap.size ≠ w2.heap.size := by omega
  have n2 : w2.heap.size ≠ w.heap.size := by omega
  clear zp zz R2 N2 b2 w3b A2 w2c hcur
  cases hz0 : (z == 0)
  · cases hz1 : (z == 1)
    · cases hz2 : (z == 2)
      · obtain ⟨g1, g2, g3, g4, g5⟩ := R3; obtain ⟨m1, m2, m3, m4, m5⟩ := N3
        go_wp2_with fail
        exact bodyPost_ret (v := .agg #[.int .i64 x, .int .i64 (12 + y)]) (by simp (maxDischargeDepth := 6) [results, Tryz.results33, go_sem, *]) rfl ⟨_, _, rfl, ((w3c.setOther hpw hBw _ _).setOther hpw hBw _ _), ((b3.setNew (Nat.le_refl _) _ _).setNew (Nat.le_refl _) _ _)⟩
      · obtain ⟨g1, g2, g3, g4, g5⟩ := R3; obtain ⟨m1, m2, m3, m4, m5⟩ := N3
        go_wp2_with fail
        exact bodyPost_ret (v := .agg #[.int .i64 0, .int .i64 1]) (by simp (maxDischargeDepth := 6) [results, Tryz.results33, go_sem, *]) rfl ⟨_, _, rfl, ((((w3c.setOther hk hBk _ _).setOther hk hBk _ _).setOther hpw hBw _ _).setOther hpw hBw _ _), ((((b3.setNew hwk' _ _).setNew hwk' _ _).setNew (Nat.le_refl _) _ _).setNew (Nat.le_refl _) _ _)⟩
    · go_wp2_with fail
      have hp := pickLit B p w3 [0, 1, -1, 3] w3c (by decide) (by decide); simp only [List.map_cons, List.map_nil, List.length_cons, List.length_nil, Nat.zero_add, Nat.reduceAdd] at hp; refine hp.mono ?_; clear hp; rintro e w4 ⟨v, rfl, w4c, w4b⟩
      have R4 := R3.but w4b hpw
      have N4 := N3.but w4b hk
      have b4 : But p w w4 := b3.trans w4b
      clear R3 N3 b3 w4b w3c
      go_wp2_with fail
      have hp := pickLit B p w4 [0, 1, 2, 3, 6, -1] w4c (by decide) (by decide); simp only [List.map_cons, List.map_nil, List.length_cons, List.length_nil, Nat.zero_add, Nat.reduceAdd] at hp; refine hp.mono ?_; clear hp; rintro e w5 ⟨u, rfl, w5c, w5b⟩
      have R5 := R4.but w5b hpw
      have N5 := N4.but w5b hk
      have b5 : But p w w5 := b4.trans w5b
      clear R4 N4 b4 w5b w4c
      obtain ⟨g1, g2, g3, g4, g5⟩ := R5; obtain ⟨m1, m2, m3, m4, m5⟩ := N5
      go_wp2_with fail
      exact bodyPost_ret (v := .agg #[.int .i64 v, .int .i64 u]) (by simp (maxDischargeDepth := 6) [results, Tryz.results33, go_sem, *]) rfl ⟨_, _, rfl, ((((w5c.setOther hk hBk _ _).setOther hk hBk _ _).setOther hpw hBw _ _).setOther hpw hBw _ _), ((((b5.setNew hwk' _ _).setNew hwk' _ _).setNew (Nat.le_refl _) _ _).setNew (Nat.le_refl _) _ _)⟩
  · go_wp2_with fail
    have hp := pickLit B p w3 [0, 1, 500000, 500001, 100] w3c (by decide) (by decide); simp only [List.map_cons, List.map_nil, List.length_cons, List.length_nil, Nat.zero_add, Nat.reduceAdd] at hp; refine hp.mono ?_; clear hp; rintro e w4 ⟨v, rfl, w4c, w4b⟩
    have R4 := R3.but w4b hpw
    have N4 := N3.but w4b hk
    have b4 : But p w w4 := b3.trans w4b
    clear R3 N3 b3 w4b w3c
    go_wp2_with fail
    have hp := pickLit B p w4 [1000000, 1000001, 999999] w4c (by decide) (by decide); simp only [List.map_cons, List.map_nil, List.length_cons, List.length_nil, Nat.zero_add, Nat.reduceAdd] at hp; refine hp.mono ?_; clear hp; rintro e w5 ⟨u, rfl, w5c, w5b⟩
    have R5 := R4.but w5b hpw
    have N5 := N4.but w5b hk
    have b5 : But p w w5 := b4.trans w5b
    clear R4 N4 b4 w5b w4c
    obtain ⟨g1, g2, g3, g4, g5⟩ := R5; obtain ⟨m1, m2, m3, m4, m5⟩ := N5
    go_wp2_with fail
    exact bodyPost_ret (v := .agg #[.int .i64 v, .int .i64 u]) (by simp (maxDischargeDepth := 6) [results, Tryz.results33, go_sem, *]) rfl ⟨_, _, rfl, ((((w5c.setOther hk hBk _ _).setOther hk hBk _ _).setOther hpw hBw _ _).setOther hpw hBw _ _), ((((b5.setNew hwk' _ _).setNew hwk' _ _).setNew (Nat.le_refl _) _ _).setNew (Nat.le_refl _) _ _)⟩
set_option maxHeartbeats 400000 in
theorem big_any (a : Option Addr) (n c : Nat) (w : World) :
    Calls Tryz.prog 4 #[.slice a n c] w fun e w' => e = .returned (.bool (decide (1048576 < (n : Int)))) ∧ w = w' := by
  go_enter Tryz.func4, Tryz.ntmps4
  go_wp2
  go_ret
  exact ⟨rfl, rfl⟩
end Go.Proofs.YtkeijldfblgeaaaGreat
namespace Go.Proofs.YtkeijldfblgeaaaGreat
open Go.RowKit
set_option linter.unusedVariables false
/- A list of peers beside the cursor. -/
def Pw (w : World) (B p : Nat) (v : Value) (L : List PT) (wr : World) : Prop := CurOk wr B p ∧ wr.ownsRow w.heap.size 35 5 v L.length (prow L) ∧ But p w wr ∧ p < w.heap.size
theorem Pw.call {w : World} {B p : Nat} {v : Value} {L : List PT} {wr wr' : World} (h : Pw w B p v L wr) (hc : CurOk wr' B p) (hb : But p wr wr') : Pw w B p v L wr' := ⟨hc, own_butK h.2.1 hb h.2.2.2, h.2.2.1.trans hb, h.2.2.2⟩
theorem Pw.below {w : World} {B p : Nat} {v : Value} {L : List PT} {wr wr' : World} (h : Pw w B p v L wr) (hb : Below wr.heap.size wr wr') : Pw w B p v L wr' := ⟨h.1.below hb, own_belK' h.2.1 hb, h.2.2.1.trans ⟨hb.os, hb.tape, hb.output, hb.size, fun k hk _ => hb.block k hk⟩, h.2.2.2⟩
theorem CurOk.belowV {w w' : World} {B p Q : Nat} (h : CurOk w B p) (hb : Below Q w w') (hq : p < Q) : CurOk w' B p := by
  obtain ⟨a, n, c, i, hh, h0, h1, h2, f0, f1, f2, hi, hn, hc, hB, hp⟩ := h
  refine ⟨a, n, c, i, hh, ?_, ?_, ?_, ?_, ?_, ?_, hi, hn, hc.below (hb.mono (by omega)), hB, Nat.lt_of_lt_of_le hp hb.size⟩
  · rw [hb.cell (p := ⟨p, 0, none⟩) hq]; exact h0
  · rw [hb.cell (p := ⟨p, 1, none⟩) hq]; exact h1
  · rw [hb.cell (p := ⟨p, 2, none⟩) hq]; exact h2
  · rw [hb.frozen (p := ⟨p, 0, none⟩) hq]; exact f0
  · rw [hb.frozen (p := ⟨p, 1, none⟩) hq]; exact f1
  · rw [hb.frozen (p := ⟨p, 2, none⟩) hq]; exact f2
theorem CurOk.kept {w w' : World} {B p : Nat} {o : Option Nat} (h : CurOk w B p) (hg : w.grownBy w' o) (hne : ∀ k, k ≤ p → some k ≠ o) : CurOk w' B p :=
  h.belowV (grown_bel hg (B := p + 1) (by have := h.lt; omega) (fun b hb => hne b (by omega))) (Nat.lt_succ_self _)
theorem Pw.add {w : World} {B p : Nat} {v v' : Value} {L L' : List PT} {wr w9 : World} (h : Pw w B p v L wr) (O9 : w9.ownsRow w.heap.size 35 5 v' L'.length (prow L')) (hg : wr.grownBy w9 v.ownBlock) : Pw w B p v' L' w9 := by
  obtain ⟨h1, h2, h3, h4⟩ := h
  have hne : ∀ k, k < w.heap.size → some k ≠ v.ownBlock := fun k hk e => by have := (World.ownsRow.lt h2 k e.symm).1; omega
  exact ⟨h1.kept hg (fun k hk => hne k (by omega)), O9, ⟨hg.os.trans h3.1, hg.tape.trans h3.2.1, hg.output.trans h3.2.2.1, Nat.le_trans h3.2.2.2.1 hg.size, fun k hk hp => (hg.block k (Nat.lt_of_lt_of_le hk h3.2.2.2.1) (hne k hk)).trans (h3.2.2.2.2 k hk hp)⟩, h4⟩
set_option maxRecDepth 100000 in
set_option maxHeartbeats 8000000 in
theorem l10DrawPeers_any (B p : Nat) (w : World) (hcur : CurOk w B p) :
    Calls Tryz.prog 30 #[.pointer (some ⟨p, 0, none⟩)] w fun e w' => ∃ v L, e = .returned v ∧ Pw w B p v L w' ∧ L.length ≤ 8 := by
  have hpl := hcur.lt
  have A1 := Below.nw w (.cells #[] 35)
  have ST : Pw w B p (.slice (some ⟨w.heap.size, 0, none⟩) 0 0) [] (w.alloc (.cells #[] 35)) := ⟨hcur.below A1, made_peer w, ⟨A1.os, A1.tape, A1.output, A1.size, fun k hk _ => A1.block k hk⟩, hpl.1⟩
  go_enter Tryz.func30, Tryz.ntmps30
  go_upto_region 2 with fail
  clear A1 hcur
  generalize w.alloc (.cells #[] 35) = w1 at *
  go_wp2_with fail
  refine (l1Below_any B p 60 _ ST.1).mono ?_
  rintro e w2 ⟨mid, rfl, m0, m1, m2, _, hc, hb⟩
  have m3 := m2 (by omega)
  replace ST := ST.call hc hb
  clear hc hb m2
  go_wp2_with fail
  go_loopw [3, 5] (fun v i wr => ∃ (k : Nat) (L : List PT), k ≤ 8 ∧ i = .int .i64 k ∧ L.length ≤ k ∧ Pw w B p v L wr) (fun _ i _ => 8 - (intOf i).toNat)
  case atStart => exact ⟨0, [], Nat.zero_le _, rfl, Nat.le_refl _, ST⟩
  case round =>
    clear ST
    obtain ⟨k, L, hk, rfl, hL, ST⟩ := hrel
    by_cases hlt : k < 8
    · have hli : (k : Int) < 8 := by omega
      go_wp2_with fail
      refine (l1Once_any B p 2 _ ST.1).mono ?_
      rintro e w3 ⟨z, rfl, hc, hb⟩
      replace ST := ST.call hc hb
      clear hc hb
      cases z with
      | true =>
        go_wp2_with fail
        go_roundw
        case rel => exact ⟨k + 1, L, by omega, by go_num, by omega, ST⟩
        case measure => simp [intOf]; omega
      | false =>
        go_wp2_with fail
        refine (l1Below_any B p 30 _ ST.1).mono ?_
        rintro e w4 ⟨x1, rfl, a0, a1, a2, _, hc, hb⟩
        have a3 := a2 (by omega)
        replace ST := ST.call hc hb
        clear hc hb a2
        go_wp2_with fail
        refine (l1Below_any B p 50 _ ST.1).mono ?_
        rintro e w5 ⟨x2, rfl, b0, b1, b2, _, hc, hb⟩
        have b3 := b2 (by omega)
        replace ST := ST.call hc hb
        clear hc hb b2
        go_wp2_with fail
        refine (l1Below_any B p 60 _ ST.1).mono ?_
        rintro e w6 ⟨x3, rfl, c0, c1, c2, _, hc, hb⟩
        have c3 := c2 (by omega)
        replace ST := ST.call hc hb
        clear hc hb c2
        go_wp2_with fail
        refine (l1Once_any B p 3 _ ST.1).mono ?_
        rintro e w7 ⟨x4, rfl, hc, hb⟩
        replace ST := ST.call hc hb
        clear hc hb
        have OW := ST.2.1
        have hsz : w.heap.size ≤ w7.heap.size := ST.2.2.1.2.2.2.1
        go_wp2_with (at_builtin; refine add_peer rfl _ _ rfl w.heap.size L _ rfl OW rfl (by omega) (by omega) ?_; intro v' w9 O9 hg9 hn9)
        have ST9 : Hid (Pw w B p v' _ w9) := ST.add O9 hg9
        clear OW O9 hg9 hn9 ST
        go_wp2_with fail
        go_roundw
        case rel => exact ⟨k + 1, _, by omega, by go_num, by simp; omega, ST9.out⟩
        case measure => simp [intOf]; omega
    · have hkn : k = 8 := by omega
      subst hkn
      obtain ⟨av, cv, rfl, _, _, _⟩ := ownF_src ST.2.1
      go_wp2_with fail
      go_ret
      exact ⟨_, L, rfl, ST, hL⟩
end Go.Proofs.YtkeijldfblgeaaaGreat
namespace Go.Proofs.YtkeijldfblgeaaaGreat
open Go.RowKit
set_option linter.unusedVariables false
theorem gP_set {L : List PT} {i q : Nat} (hi : i < L.length) (v : PT) : gP (L.set i v) q = if i = q then v else gP L q := by
  rw [gP, List.getD_eq_getElem?_getD, List.getElem?_set, gP, List.getD_eq_getElem?_getD]
  by_cases e : i = q
  · subst e; simp [hi]
  · simp [e]
theorem own_put5 {w : World} {base : Nat} {T : TypeId} {a : Option Addr} {c : Nat} {L : List PT} (h : w.ownsRow base T 5 (.slice a L.length c) L.length (prow L)) {i : Nat} (hi : i < L.length) :
    ∃ g, a = some ⟨g, 0, none⟩ ∧ base ≤ g ∧ g < w.heap.size ∧ (∀ j, j < 5 → (∃ u, w.cell? ⟨g, i * 5 + j, none⟩ = some u) ∧ w.frozen? ⟨g, i * 5 + j, none⟩ = false) ∧
      ∀ (j : Nat) (q : PT) (u : Value), j < 5 → MCPeer q j = u → (∀ t, t < 5 → t ≠ j → MCPeer q t = MCPeer (gP L i) t) → (w.setCell ⟨g, i * 5 + j, none⟩ u).ownsRow base T 5 (.slice a (L.set i q).length c) (L.set i q).length (prow (L.set i q)) := by
  rcases h.2 with ⟨_, h0⟩ | ⟨g, cap, cur, he, hb, hg, hn, hc, hs, ht⟩
  · omega
  simp at he
  obtain ⟨rfl, rfl⟩ := he
  have hr : w.rowIs g T (c * 5) (fun j => cur.getD j undef) := ⟨cur, hg, hs, fun j hj => by rw [Array.getElem?_eq_getElem (by omega)]; exact congrArg some (by show _ = cur.getD j undef; rw [Array.getD_eq_getD_getElem?, Array.getElem?_eq_getElem (by omega)]; rfl)⟩
  have hcell : ∀ t, t < L.length * 5 → cur.getD t undef = MFPeer (gP L) t := fun t h2 => by
    have e : (cur.toList.take (L.length * 5))[t]? = (prow L)[t]? := by rw [ht]
    rw [List.getElem?_take, if_pos h2, prow, List.getElem?_map, List.getElem?_range h2] at e
    have e2 : cur[t]? = some (MFPeer (gP L) t) := by simpa using e
    rw [Array.getD_eq_getD_getElem?, e2]
    rfl
  refine ⟨g, rfl, hb, hr.lt, fun j hj => ⟨⟨_, hr.cell (by omega)⟩, hr.frozen _⟩, fun j q u hj hu hq => ?_⟩
  have hr2 := hr.set (i * 5 + j) u
  obtain ⟨c2, k1, k2, k3⟩ := hr2
  rw [List.length_set]
  refine ⟨by simp [prow], .inr ⟨g, c, c2, rfl, hb, k1, hn, hc, k2, ?_⟩⟩
  apply List.ext_getElem?
  intro t
  by_cases ht5 : t < L.length * 5
  · rw [List.getElem?_take, if_pos ht5, prow, List.length_set, List.getElem?_map, List.getElem?_range ht5]
    have e := k3 t (by omega)
    rw [Array.getElem?_toList, e]
    show some _ = some (MFPeer (gP (L.set i q)) t)
    congr 1
    show (if t = i * 5 + j then u else cur.getD t undef) = MCPeer (gP (L.set i q) (t / 5)) (t % 5)
    rw [gP_set hi]
    by_cases e1 : t = i * 5 + j
    · rw [if_pos e1, if_pos (by omega), show t % 5 = j by omega, hu]
    · rw [if_neg e1, hcell t ht5]
      show MCPeer (gP L (t / 5)) (t % 5) = _
      by_cases e2 : i = t / 5
      · rw [if_pos e2, hq (t % 5) (by omega) (by omega), e2]
      · rw [if_neg e2]
  · rw [List.getElem?_take, if_neg ht5, List.getElem?_eq_none (by simp [prow]; omega)]
theorem Pw.set {w : World} {B p : Nat} {v : Value} {L L' : List PT} {wr : World} {g o : Nat} {u : Value} (h : Pw w B p v L wr) (hg : w.heap.size ≤ g) (O : (wr.setCell ⟨g, o, none⟩ u).ownsRow w.heap.size 35 5 v L'.length (prow L')) : Pw w B p v L' (wr.setCell ⟨g, o, none⟩ u) := by
  obtain ⟨h1, h2, h3, h4⟩ := h
  have hb := (But.refl g wr).setCell o u
  exact ⟨h1.kept hb.grK (fun k hk e => by have := Option.some.inj e; omega), O, ⟨hb.1.trans h3.1, hb.2.1.trans h3.2.1, hb.2.2.1.trans h3.2.2.1, Nat.le_trans h3.2.2.2.1 hb.2.2.2.1, fun k hk hp => (hb.2.2.2.2 k (Nat.lt_of_lt_of_le hk h3.2.2.2.1) (by omega)).trans (h3.2.2.2.2 k hk hp)⟩, h4⟩
end Go.Proofs.YtkeijldfblgeaaaGreat
namespace Go.Proofs.YtkeijldfblgeaaaGreat
open Go.RowKit
set_option linter.unusedVariables false
set_option maxRecDepth 100000 in
set_option maxHeartbeats 8000000 in
theorem l10DrawAny_any (B p : Nat) (w : World) (hcur : CurOk w B p) :
    Calls Tryz.prog 12 #[.pointer (some ⟨p, 0, none⟩)] w fun e w' => ∃ v L, e = .returned v ∧ Pw w B p v L w' ∧ L.length ≤ 9 := by
  have hpl := hcur.lt
  go_enter Tryz.func12, Tryz.ntmps12
  go_wp2_with fail
  refine (l10DrawPeers_any B p _ hcur).mono ?_
  rintro e w1 ⟨v, L, rfl, ST, hL⟩
  clear hcur
  obtain ⟨av, cv, rfl, _, _, _⟩ := ownF_src ST.2.1
  by_cases hz : L.length = 0
  · have hL0 : L = [] := List.eq_nil_of_length_eq_zero hz
    subst hL0
    clear hz
    go_wp2_with fail
    go_ret
    exact ⟨_, [], rfl, ST, by simp⟩
  have hz' : ((L.length : Int) == 0) = false := beq_eq_false_iff_ne.2 (by omega)
  go_wp2_with fail
  refine (l1Below_any B p _ _ ST.1).mono ?_
  rintro e w2 ⟨x, rfl, x0, _, x2, _, hc, hb⟩
  have x3 := x2 (by omega)
  replace ST := ST.call hc hb
  clear hc hb x2 hz'
  obtain ⟨i, rfl⟩ := Int.eq_ofNat_of_zero_le x0
  have hi : i < L.length := by omega
  go_wp2_with fail
  refine (l1Below_any B p 25 _ ST.1).mono ?_
  rintro e w3 ⟨z, rfl, z0, _, _, _, hc, hb⟩
  replace ST := ST.call hc hb
  clear hc hb
  obtain ⟨g, ha, hgb, hgl, hcl, hput⟩ := own_put5 ST.2.1 hi
  subst ha
  have HI : Hid (∀ wq, Pw w B p (.slice (some ⟨g, 0, none⟩) L.length cv) L wq → g < wq.heap.size ∧ (∀ j, j < 5 → (∃ u, wq.cell? ⟨g, i * 5 + j, none⟩ = some u) ∧ wq.frozen? ⟨g, i * 5 + j, none⟩ = false) ∧ ∀ (j : Nat) (q : PT) (u : Value), j < 5 → MCPeer q j = u → (∀ t, t < 5 → t ≠ j → MCPeer q t = MCPeer (gP L i) t) → (wq.setCell ⟨g, i * 5 + j, none⟩ u).ownsRow w.heap.size 35 5 (.slice (some ⟨g, 0, none⟩) L.length cv) L.length (prow (L.set i q))) := fun wq hq => by
    obtain ⟨g', ha', h1, h2, h3, h4⟩ := own_put5 hq.2.1 hi
    simp at ha'
    subst ha'
    exact ⟨h2, h3, fun j q u a b c => by have := h4 j q u a b c; rw [List.length_set] at this; exact this⟩
  clear hgl hcl hput
  have hLm : L.length ≤ 9 := by omega
  by_cases c0 : z = 0
  · subst c0
    have A1 := Below.nw w3 (.cells #[.int .i64 (-1), .int .i64 8, .int .i64 0] 3)
    have hcl : ∀ j, j < 3 → ∃ v : Int, (w3.alloc (.cells #[.int .i64 (-1), .int .i64 8, .int .i64 0] 3)).cell? ⟨w3.heap.size, 0 + j, none⟩ = some (.int .i64 v) := fun j hj => by
      match j, hj with
      | 0, _ => exact ⟨-1, by simp⟩
      | 1, _ => exact ⟨8, by simp⟩
      | 2, _ => exact ⟨0, by simp⟩
    have CP := l1PickInt_any B p w3.heap.size 0 3 3 _ (ST.below A1).1 (by omega) (by omega) (by simp) (by have := ST.1.lt; omega) hcl
    replace ST := ST.below A1
    clear hcl A1
    go_wp2_with fail
    refine CP.mono ?_
    rintro e w4 ⟨_, y, _, _, rfl, hc, hb⟩
    replace ST := ST.call hc hb
    clear hc hb CP
    obtain ⟨hl, hcf, hput⟩ := HI.out _ ST
    obtain ⟨⟨u, hu'⟩, hf'⟩ := hcf 0 (by omega)
    have hu : w4.cell? ⟨g, i * 5, none⟩ = some u := hu'
    have hf : w4.frozen? ⟨g, i * 5, none⟩ = false := hf'
    clear hu' hf'
    have O5 := hput 0 (y, (gP L i).2) (.int .i64 y) (by omega) rfl (fun t h1 h2 => by match t, h1, h2 with | 1, _, _ => rfl | 2, _, _ => rfl | 3, _, _ => rfl | 4, _, _ => rfl)
    have S5 : Hid (Pw w B p _ (L.set i (y, (gP L i).2)) (w4.setCell ⟨g, i * 5, none⟩ (.int .i64 y))) := ST.set hgb (by rw [List.length_set]; exact O5)
    clear hput hcf O5
    go_wp2_with fail
    go_ret
    exact ⟨_, _, rfl, S5.out, by rw [List.length_set]; omega⟩
  by_cases c1 : z = 1
  · subst c1
    go_wp2_with fail
    refine (l2DrawCount_any B p _ ST.1).mono ?_
    rintro e w4 ⟨y, rfl, hc, hb⟩
    replace ST := ST.call hc hb
    clear hc hb
    obtain ⟨hl, hcf, hput⟩ := HI.out _ ST
    obtain ⟨⟨u, hu⟩, hf⟩ := hcf 3 (by omega)
    have O5 := hput 3 ((gP L i).1, (gP L i).2.1, (gP L i).2.2.1, y, (gP L i).2.2.2.2) (.int .i64 y) (by omega) rfl (fun t h1 h2 => by match t, h1, h2 with | 0, _, _ => rfl | 1, _, _ => rfl | 2, _, _ => rfl | 4, _, _ => rfl)
    have S5 : Hid (Pw w B p _ (L.set i _) (w4.setCell ⟨g, i * 5 + 3, none⟩ (.int .i64 y))) := ST.set hgb (by rw [List.length_set]; exact O5)
    clear hput hcf O5
    go_wp2_with fail
    go_ret
    exact ⟨_, _, rfl, S5.out, by rw [List.length_set]; omega⟩
  by_cases c2 : z = 2
  · subst c2
    go_wp2_with fail
    refine (l1DrawIval_any B p _ ST.1).mono ?_
    rintro e w4 ⟨y1, y2, rfl, hc, hb⟩
    replace ST := ST.call hc hb
    clear hc hb
    obtain ⟨hl, hcf, hput⟩ := HI.out _ ST
    obtain ⟨⟨u, hu⟩, hf⟩ := hcf 1 (by omega)
    obtain ⟨⟨u2, hu2⟩, hf2⟩ := hcf 2 (by omega)
    have O5 := hput 1 ((gP L i).1, y1, (gP L i).2.2) (.int .i64 y1) (by omega) rfl (fun t h1 h2 => by match t, h1, h2 with | 0, _, _ => rfl | 2, _, _ => rfl | 3, _, _ => rfl | 4, _, _ => rfl)
    have S5 : Pw w B p (.slice (some ⟨g, 0, none⟩) L.length cv) (L.set i ((gP L i).1, y1, (gP L i).2.2)) (w4.setCell ⟨g, i * 5 + 1, none⟩ (.int .i64 y1)) := ST.set hgb (by rw [List.length_set]; exact O5)
    have S5' := S5.2.1
    have e5 : (L.set i ((gP L i).1, y1, (gP L i).2.2)).length = L.length := List.length_set
    obtain ⟨g', ha', _, _, _, hput2⟩ := own_put5 (L := L.set i ((gP L i).1, y1, (gP L i).2.2)) (c := cv) (a := some ⟨g, 0, none⟩) (by rw [e5] at S5' ⊢; exact S5') (i := i) (by omega)
    simp at ha'
    subst ha'
    have O6 := hput2 2 ((gP L i).1, y1, y2, (gP L i).2.2.2) (.int .i64 y2) (by omega) rfl (fun t h1 h2 => by rw [gP_set hi, if_pos rfl]; match t, h1, h2 with | 0, _, _ => rfl | 1, _, _ => rfl | 3, _, _ => rfl | 4, _, _ => rfl)
    have S6 : Hid (Pw w B p (.slice (some ⟨g, 0, none⟩) L.length cv) ((L.set i ((gP L i).1, y1, (gP L i).2.2)).set i ((gP L i).1, y1, y2, (gP L i).2.2.2)) ((w4.setCell ⟨g, i * 5 + 1, none⟩ (.int .i64 y1)).setCell ⟨g, i * 5 + 2, none⟩ (.int .i64 y2))) := S5.set hgb (by rw [List.length_set, List.length_set] at O6 ⊢; exact O6)
    clear hput hcf O5 O6 S5 S5' hput2 e5
    go_wp2_with fail
    go_ret
    exact ⟨_, _, rfl, S6.out, by rw [List.length_set, List.length_set]; omega⟩
  by_cases c3 : z = 3
  · subst c3
    have OW := ST.2.1
    have hsz : w.heap.size ≤ w3.heap.size := ST.2.2.1.2.2.2.1
    go_wp2_with (at_builtin; refine add_peer rfl _ _ rfl w.heap.size L _ rfl OW rfl (by omega) (by omega) ?_; intro v' w9 O9 hg9 hn9)
    have S9 := ST.add O9 hg9
    obtain ⟨a9, c9, rfl, _, _, _⟩ := ownF_src S9.2.1
    have S9' : Hid _ := S9
    clear OW O9 hg9 hn9 ST S9
    go_wp2_with fail
    go_ret
    exact ⟨_, _, rfl, S9'.out, by simp; omega⟩
  · have d0 : (z == 0) = false := by simp [c0]
    have d1 : (z == 1) = false := by simp [c1]
    have d2 : (z == 2) = false := by simp [c2]
    have d3 : (z == 3) = false := by simp [c3]
    go_wp2_with fail
    go_ret
    exact ⟨_, L, rfl, ST, by omega⟩
end Go.Proofs.YtkeijldfblgeaaaGreat
