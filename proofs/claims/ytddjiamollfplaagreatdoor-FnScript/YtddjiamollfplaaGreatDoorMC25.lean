/- A text cut at a byte (both sides). Words joined and cut. -/
import Derived.Lib.OthersKept
import Derived.Laws.RangeAny
import Derived.Laws.DeepStrings4
import Derived.WalkSmall
import Derived.Test.YtddjiamollfplaaGreatDoorMC24
namespace Go.Proofs.YtddjiamollfplaaGreatDoor
open Go.RowKit
set_option linter.unusedVariables false

def av (s : ByteArray) (c : Int) : Nat → Nat × List ByteArray
 | 0 => (0, [])
 | i + 1 => if bt s i = c then (i + 1, (av s c i).2 ++ [s.extract (av s c i).1 i]) else av s c i
theorem cx {s : ByteArray} {c : Int} {i : Nat} (h : bt s i ≠ c) : av s c (i + 1) = av s c i := by rw [av, if_neg h]
theorem bH {s : ByteArray} {c : Int} {i : Nat} (h : bt s i = c) : av s c (i + 1) = (i + 1, (av s c i).2 ++ [s.extract (av s c i).1 i]) := by rw [av, if_pos h]
theorem cv (s : ByteArray) (c : Int) : ∀ i, (av s c i).1 ≤ i ∧ (av s c i).2.length ≤ i
 | 0 => ⟨Nat.le_refl _, Nat.le_refl _⟩
 | i + 1 => by
  have q := cv s c i
  by_cases h : bt s i = c
  ·rw [bH h]
   refine ⟨Nat.le_refl _, ?_⟩
   show ((av s c i).2 ++ [s.extract (av s c i).1 i]).length ≤ i + 1
   rw [List.length_append]
   show _ + 1 ≤ i + 1
   omega
  ·rw [cx h]; omega
theorem dn {s : ByteArray} {c : Int} {i : Nat} : ∀ k, (∀ j, i ≤ j → j < i + k → bt s j ≠ c) → av s c (i + k) = av s c i
 | 0, _ => rfl
 | k + 1, h => by
  rw [← Nat.add_assoc, cx (h (i + k) (by omega) (by omega))]
  exact dn k fun j h1 h2 => h j h1 (by omega)
def wdW (s : ByteArray) (c : Int) : List ByteArray := (av s c s.size).2 ++ [s.extract (av s c s.size).1 s.size]
theorem kw (s : ByteArray) (i : Nat) : bt s i = ((s.get! i).toNat : Int) := by
 cases s with
 | mk d =>
  show ((d.getD i 0).toNat : Int) = ((d[i]!).toNat : Int)
  rw [Array.getD_eq_getD_getElem?, Array.getElem!_eq_getD, Array.getD_eq_getD_getElem?]
  rfl
theorem bt_at {s : ByteArray} {i : Nat} (h : i < s.size) : bt s i = ((s[i]'h).toNat : Int) := by
 rw [kw]
 have e := get_at s i h
 rw [Nat.add_zero] at e
 rw [e]
theorem kF {s : ByteArray} {pos : Nat} (h : pos < s.size) {c : Int} (c0 : 0 ≤ c) (c1 : c < 128) :
 1 ≤ (Utf8.decode s pos).2 ∧ pos + (Utf8.decode s pos).2 ≤ s.size ∧ (((Utf8.decode s pos).1 : Int) = c → bt s pos = c ∧ (Utf8.decode s pos).2 = 1) ∧ (¬ ((Utf8.decode s pos).1 : Int) = c → ∀ j, pos ≤ j → j < pos + (Utf8.decode s pos).2 → bt s j ≠ c) := by
 have hb := bt_at h
 by_cases ha : (s[pos]'h).toNat < 128
 ·rw [decode_ascii s pos h ha]
  refine ⟨Nat.le_refl _, by show pos + 1 ≤ s.size; omega, fun e => ⟨by rw [hb]; exact e, rfl⟩, fun e j h1 h2 => ?_⟩
  have ej : j = pos := by
   have h2 : j < pos + 1 := h2
   omega
  subst ej
  rw [hb]
  exact e
 ·have q := decode_high s pos h (by omega)
  have big : pos + (Utf8.decode s pos).2 ≤ s.size ∧ ∀ k, 1 ≤ k → k < (Utf8.decode s pos).2 → 128 ≤ (s.get! (pos + k)).toNat := by
   have hn : ¬ (s[pos]'h).toNat < 128 := ha
   simp only [Utf8.decode, get_at s pos h, hn, if_false]
   repeat' split
   all_goals (first | (refine ⟨by show pos + 1 ≤ s.size; omega, fun k h1 h2 => ?_⟩; (have h2 : k < 1 := h2); omega) | skip)
   ·rename_i g _
    simp only [Bool.and_eq_true, beq_iff_eq, decide_eq_true_eq] at g
    refine ⟨by show pos + 2 ≤ s.size; omega, fun k h1 h2 => ?_⟩
    have h2 : k < 2 := h2
    obtain rfl : k = 1 := by omega
    omega
   ·rename_i g _
    simp only [Bool.and_eq_true, beq_iff_eq, decide_eq_true_eq] at g
    refine ⟨by show pos + 3 ≤ s.size; omega, fun k h1 h2 => ?_⟩
    have h2 : k < 3 := h2
    rcases (show k = 1 ∨ k = 2 by omega) with rfl | rfl <;> omega
   ·rename_i g _
    simp only [Bool.and_eq_true, beq_iff_eq, decide_eq_true_eq] at g
    refine ⟨by show pos + 4 ≤ s.size; omega, fun k h1 h2 => ?_⟩
    have h2 : k < 4 := h2
    rcases (show k = 1 ∨ k = 2 ∨ k = 3 by omega) with rfl | rfl | rfl <;> omega
  refine ⟨q.2, big.1, fun e => absurd e (by omega), fun _ j h1 h2 e => ?_⟩
  by_cases ej : j = pos
  ·subst ej
   rw [hb] at e
   omega
  ·have g := big.2 (j - pos) (by omega) (by omega)
   rw [show pos + (j - pos) = j by omega] at g
   rw [kw] at e
   omega
theorem dE {w : World} {ops : Array Oper} {rest : List Oper} {o : Oper} {a : Act} {Q : Exit → Act → World → Prop} (hgd : o.guard = none) (s x : Operand)
 (ho : o.op = .call { callee := .builtin .append, args := #[s, x], argTypes := #[46, 46] }) (base : Nat) (L M : List ByteArray) (v : Value) (hs : a.eval s = v) (hown : w.ownsRow base 9 1 v L.length (stR L))
 (ad : Addr) (c : Nat) (hx : a.eval x = .slice (some ad) M.length c) (hM : ∀ j u, (stR M)[j]? = some u → w.cell? (ad.add j) = some u) (hL : L.length + M.length ≤ 1000000) (hbase : base ≤ w.heap.size)
 (h : ∀ v' w', w'.ownsRow base 9 1 v' (L ++ M).length (stR (L ++ M)) → w.grownBy w' v.ownBlock → wpList Tryz.prog ops Q rest (a.put o.dst v') w') :
 wpList Tryz.prog ops Q (o :: rest) a w := by
 obtain ⟨i0, hi, hz0, hz1, hz2⟩ := info_parts ep
 refine wpList_append_own w hgd s x 46 ho base 9 i0 (.string ⟨#[]⟩) 1 16 Tryz.underlying46 hi hz0 hz1 hz2 rfl (by decide) v L.length (stR L) hs hown ad M.length c (stR M) hx (by rw [jT, Nat.mul_one]) hM (jU M) (by unfold maxLen; omega) (by omega) hbase ?_
 intro v' w' h1 h2 _
 exact h v' w' (by rw [iz, List.length_append]; exact h1) h2
set_option maxRecDepth 100000 in
set_option maxHeartbeats 8000000 in
theorem fw (s : ByteArray) (c : Int) (c0 : 0 ≤ c) (c1 : c < 128) (w : World) (hs : s.size ≤ 20000) :
 Calls Tryz.prog 49 #[.string s, .int .i32 c] w fun e w' => ∃ v, e = .returned (.tuple #[v, .string (s.extract (av s c s.size).1 s.size)]) ∧ w'.ownsRow (w.heap.size + 1) 9 1 v (av s c s.size).2.length (stR (av s c s.size).2) ∧ Below w.heap.size w w' ∧ w.heap.size + 1 ≤ w'.heap.size := by
 have hk0 : (w.iter s 0).heap[w.heap.size]? = some (.stringIter s 0) := World.iter_heap w s 0
 have B0 : Below w.heap.size w (w.iter s 0) := (Below.refl _ w).alloc (Nat.le_refl _) _
 have hl0 : w.heap.size + 1 ≤ (w.iter s 0).heap.size := by simp [World.iter]
 go_enter Tryz.func49, Tryz.ntmps49
 go_wp2_with fail
 generalize w.iter s 0 = v0 at *
 go_loopw [4, 6] (fun v fr wr => ∃ pos : Nat, pos ≤ s.size ∧ wr.heap[w.heap.size]? = some (.stringIter s pos) ∧ fr = .int .i64 ((av s c pos).1 : Int) ∧ wr.ownsRow (w.heap.size + 1) 9 1 v (av s c pos).2.length (stR (av s c pos).2) ∧ Below w.heap.size w wr ∧ w.heap.size + 1 ≤ wr.heap.size) (fun _ _ wr => s.size - wr.iterPos w.heap.size)
 case atStart => exact ⟨0, Nat.zero_le _, hk0, rfl, World.ownsRow_nil _ _ _ _, B0, hl0⟩
 case round =>
  clear hk0 B0 hl0
  obtain ⟨pos, hps, hk, rfl, O, B, hlo⟩ := hrel
  have hc := cv s c pos
  by_cases hp : pos < s.size
  ·obtain ⟨d1, d2, d3, d4⟩ := kF hp c0 c1
   have hnext := fun ty => Lib.run_next_any_at (P := Tryz.prog) wr w.heap.size s pos ty hk hp
   have hmu : wr.iterPos w.heap.size = pos := iterPos_of hk
   generalize (Utf8.decode s pos).1 = R at *
   generalize (Utf8.decode s pos).2 = W at *
   replace O := ownsRow_iterAt O (Nat.lt_succ_self _) s (pos + W)
   replace B := Lib.below_iterAt B (Nat.le_refl _) s (pos + W)
   have hk1 := Lib.iterAt_heap wr w.heap.size s pos (pos + W) hk
   have hlo1 : w.heap.size + 1 ≤ (wr.iterAt w.heap.size s (pos + W)).heap.size := by rw [Lib.iterAt_size]; exact hlo
   clear hk hlo
   have hlo := hlo1
   clear hlo1
   have hF : ((av s c pos).1 : Int) ≤ (pos : Int) := by omega
   have hps2 : (pos : Int) ≤ (s.size : Int) := by omega
   have hmle : s.size - (pos + W) < s.size - wr.iterPos w.heap.size := by omega
   generalize wr.iterPos w.heap.size = ip at *
   by_cases hr : (R : Int) = c
   ·obtain ⟨hb, hW⟩ := d3 hr
    subst hW
    have hq : ((R : Int) == c) = true := by simp [hr]
    have HN : Hid (av s c (pos + 1) = (pos + 1, (av s c pos).2 ++ [s.extract (av s c pos).1 pos])) := bH hb
    clear d3 d4 hb hr
    generalize (av s c pos).1 = F at *
    generalize (av s c pos).2 = L at *
    generalize wr.iterAt w.heap.size s (pos + 1) = v1 at *
    have b7 := Below.nw v1 (.cells (stR [s.extract F pos]).toArray 9)
    have HM := ce v1 [s.extract F pos]
    have hk2 := (b7.block _ (by omega)).trans hk1
    replace O := ax O b7
    replace hlo := Nat.le_trans hlo b7.size
    replace B := B.trans (b7.mono B.size)
    change ∀ j u, (stR [s.extract F pos])[j]? = some u → (v1.alloc (.cells #[.string (s.extract F pos)] 9)).cell? ((⟨v1.heap.size, 0, none⟩ : Addr).add j) = some u at HM
    change (v1.alloc (.cells #[.string (s.extract F pos)] 9)).ownsRow (w.heap.size + 1) 9 1 _ L.length (stR L) at O
    change w.heap.size + 1 ≤ (v1.alloc (.cells #[.string (s.extract F pos)] 9)).heap.size at hlo
    change Below w.heap.size w (v1.alloc (.cells #[.string (s.extract F pos)] 9)) at B
    change (v1.alloc (.cells #[.string (s.extract F pos)] 9)).heap[w.heap.size]? = _ at hk2
    clear b7 hk1
    go_wp2_with (first | rw [hnext] | (at_builtin; refine dE rfl _ _ rfl (w.heap.size + 1) L [s.extract F pos] _ rfl O ⟨v1.heap.size, 0, none⟩ 1 rfl HM (by show L.length + 1 ≤ 1000000; omega) hlo ?_; intro v8 w8 O8 hg8))
    have Bg := aT O hg8 hlo
    have hk3 := (Bg.block _ (Nat.lt_succ_self _)).trans hk2
    replace B := B.trans (Bg.mono (Nat.le_succ _))
    have hlo3 := Nat.le_trans hlo Bg.size
    have hmu3 : w8.iterPos w.heap.size = pos + 1 := iterPos_of hk3
    clear Bg O hg8 HM hlo hk2
    go_wp2_with fail
    go_roundw
    case rel => exact ⟨pos + 1, by omega, hk3, by rw [HN.out]; go_num, by rw [HN.out]; exact O8, B, hlo3⟩
    case measure => omega
   ·have hq : ((R : Int) == c) = false := by simp [hr]
    have HN : Hid (av s c (pos + W) = av s c pos) := dn W (d4 hr)
    clear d3 d4 hr
    have hmu3 : (wr.iterAt w.heap.size s (pos + W)).iterPos w.heap.size = pos + W := iterPos_of hk1
    generalize wr.iterAt w.heap.size s (pos + W) = v1 at *
    go_wp2_with (rw [hnext])
    go_roundw
    case rel => exact ⟨pos + W, d2, hk1, by rw [HN.out], by rw [HN.out]; exact O, B, hlo⟩
    case measure => omega
  ·have hnext := fun ty => Lib.run_next_end_at (P := Tryz.prog) wr w.heap.size s pos ty hk hp
   obtain rfl : pos = s.size := by omega
   have hF : ((av s c s.size).1 : Int) ≤ (s.size : Int) := by omega
   clear hk
   go_wp2_with (rw [hnext])
   clear hnext
   go_region
   all_goals go_wp2_with fail
   go_ret2
   exact ⟨_, rfl, O, B.drew, hlo⟩
set_option maxRecDepth 100000 in
set_option maxHeartbeats 8000000 in
theorem fe (s : ByteArray) (w : World) (hs : s.size ≤ 20000) :
 Calls Tryz.prog 28 #[.string s] w fun e w' => ∃ v, e = .returned v ∧ w'.ownsRow w.heap.size 9 1 v (wdW s 32).length (stR (wdW s 32)) ∧ Below w.heap.size w w' := by
 have hc := (cv s 32 s.size).2
 go_enter Tryz.func28, Tryz.ntmps28
 go_wp2_with fail
 refine (fw s 32 (by decide) (by decide) w hs).mono ?_
 rintro e v1 ⟨v, rfl, O, B, hlo⟩
 have HW : Hid (wdW s 32 = (av s 32 s.size).2 ++ [s.extract (av s 32 s.size).1 s.size]) := rfl
 have b7 := Below.nw v1 (.cells (stR [s.extract (av s 32 s.size).1 s.size]).toArray 9)
 have HM := ce v1 [s.extract (av s 32 s.size).1 s.size]
 replace O := ax O b7
 replace hlo := Nat.le_trans hlo b7.size
 replace B := B.trans (b7.mono B.size)
 change ∀ j u, (stR [s.extract (av s 32 s.size).1 s.size])[j]? = some u → (v1.alloc (.cells #[.string (s.extract (av s 32 s.size).1 s.size)] 9)).cell? ((⟨v1.heap.size, 0, none⟩ : Addr).add j) = some u at HM
 change (v1.alloc (.cells #[.string (s.extract (av s 32 s.size).1 s.size)] 9)).ownsRow (w.heap.size + 1) 9 1 _ (av s 32 s.size).2.length (stR (av s 32 s.size).2) at O
 change w.heap.size + 1 ≤ (v1.alloc (.cells #[.string (s.extract (av s 32 s.size).1 s.size)] 9)).heap.size at hlo
 change Below w.heap.size w (v1.alloc (.cells #[.string (s.extract (av s 32 s.size).1 s.size)] 9)) at B
 clear b7
 generalize s.extract (av s 32 s.size).1 s.size = nw at *
 generalize (av s 32 s.size).2 = L at *
 go_wp2_with (at_builtin; refine dE rfl _ _ rfl (w.heap.size + 1) L [nw] _ rfl O ⟨v1.heap.size, 0, none⟩ 1 rfl HM (by show L.length + 1 ≤ 1000000; omega) hlo ?_; intro v8 w8 O8 hg8)
 have Bg := aT O hg8 hlo
 replace B := B.trans (Bg.mono (Nat.le_succ _))
 clear Bg O hg8 HM hlo
 go_wp2_with fail
 go_ret
 exact ⟨_, rfl, by rw [HW.out]; exact ah O8 (Nat.le_succ _), B⟩

end Go.Proofs.YtddjiamollfplaaGreatDoor
namespace Go.Proofs.YtddjiamollfplaaGreatDoor
open Go.RowKit
set_option linter.unusedVariables false

theorem fO {a b : ByteArray} {i : Nat} (h : i < a.size) : bt (a ++ b) i = bt a i := by
 have h' : i < a.data.size := h
 unfold bt
 rw [ByteArray.data_append, Array.getD_eq_getD_getElem?, Array.getD_eq_getD_getElem?, Array.getElem?_append, if_pos h']
theorem cB (a b : ByteArray) (i : Nat) : bt (a ++ b) (a.size + i) = bt b i := by
 have h' : ¬ a.size + i < a.data.size := by show ¬ a.size + i < a.size; omega
 unfold bt
 rw [ByteArray.data_append, Array.getD_eq_getD_getElem?, Array.getD_eq_getD_getElem?, Array.getElem?_append, if_neg h', show a.size + i - a.data.size = i by show a.size + i - a.size = i; omega]
def ik (c : UInt8) : ByteArray := ⟨#[c]⟩
def bk (c : UInt8) : List ByteArray → ByteArray
 | [] => ⟨#[]⟩
 | x :: L => x ++ (ik c ++ bk c L)
theorem fK (a : ByteArray) : (⟨#[]⟩ : ByteArray) ++ a = a := by
 apply ByteArray.ext
 simp [ByteArray.data_append]
theorem jo (a : ByteArray) : a ++ (⟨#[]⟩ : ByteArray) = a := by
 apply ByteArray.ext
 simp [ByteArray.data_append]
theorem gG (c : UInt8) (M : List ByteArray) : ∀ L, bk c (L ++ M) = bk c L ++ bk c M
 | [] => by rw [List.nil_append, bk, fK]
 | x :: L => by rw [List.cons_append, bk, bk, gG c M L, ByteArray.append_assoc, ByteArray.append_assoc]
theorem fu (c : UInt8) (L : List ByteArray) (x : ByteArray) : bk c (L ++ [x]) = bk c L ++ (x ++ ik c) := by
 rw [gG, bk, bk, jo]
def bF (c : Int) (x : ByteArray) : Prop := ∀ i, i < x.size → bt x i ≠ c
theorem kA {c : UInt8} {P x r s : ByteArray} {K : List ByteArray} (hs : s = P ++ (x ++ (ik c ++ r))) (hK : av s (c.toNat : Int) P.size = (P.size, K)) (hx : bF (c.toNat : Int) x) : av s (c.toNat : Int) (P.size + x.size + 1) = (P.size + x.size + 1, K ++ [x]) := by
 have e1 : ∀ i, i < x.size → bt s (P.size + i) = bt x i := fun i hi => by rw [hs, cB, fO hi]
 have e2 : bt s (P.size + x.size) = (c.toNat : Int) := by
  rw [hs, cB, show x.size = x.size + 0 from rfl, cB]
  rfl
 have e3 : av s (c.toNat : Int) (P.size + x.size) = (P.size, K) := by
  rw [dn x.size (fun j h1 h2 => by
   have q := hx (j - P.size) (by omega)
   rw [← e1 _ (by omega), show P.size + (j - P.size) = j by omega] at q
   exact q)]
  exact hK
 rw [bH e2, e3]
 have e4 : s.extract P.size (P.size + x.size) = x := by
  rw [hs, ByteArray.extract_append, show P.size - P.size = 0 by omega, show P.size + x.size - P.size = x.size by omega, ByteArray.extract_append_eq_left rfl]
  have e5 : P.extract P.size (P.size + x.size) = ⟨#[]⟩ := by
   apply ByteArray.ext
   rw [ByteArray.data_extract]
   apply Array.eq_empty_of_size_eq_zero
   rw [Array.size_extract]
   show min (P.size + x.size) P.size - P.size = 0
   omega
  rw [e5, fK]
 show (P.size + x.size + 1, K ++ [s.extract P.size (P.size + x.size)]) = _
 rw [e4]
theorem fG (c : UInt8) : (ik c).size = 1 := rfl
theorem jt {c : UInt8} (r : ByteArray) : ∀ (L : List ByteArray) (P s : ByteArray) (K : List ByteArray), (∀ x ∈ L, bF (c.toNat : Int) x) → s = P ++ (bk c L ++ r) → av s (c.toNat : Int) P.size = (P.size, K) → av s (c.toNat : Int) (P.size + (bk c L).size) = (P.size + (bk c L).size, K ++ L)
 | [], P, s, K, _, hs, hK => by
  show av s (c.toNat : Int) (P.size + 0) = (P.size + 0, K ++ [])
  rw [List.append_nil]
  exact hK
 | x :: L, P, s, K, hf, hs, hK => by
  have hs2 : s = P ++ (x ++ (ik c ++ (bk c L ++ r))) := by rw [hs, bk, ByteArray.append_assoc, ByteArray.append_assoc]
  have q := kA hs2 hK (hf x (List.mem_cons_self ..))
  have hp : (P ++ (x ++ ik c)).size = P.size + x.size + 1 := by rw [ByteArray.size_append, ByteArray.size_append, fG]; omega
  have hs3 : s = (P ++ (x ++ ik c)) ++ (bk c L ++ r) := by rw [hs2]; simp only [ByteArray.append_assoc]
  have q2 := jt r L (P ++ (x ++ ik c)) s (K ++ [x]) (fun y hy => hf y (List.mem_cons_of_mem _ hy)) hs3 (by rw [hp]; exact q)
  have hz : (bk c (x :: L)).size = x.size + 1 + (bk c L).size := by rw [bk, ByteArray.size_append, ByteArray.size_append, fG]; omega
  rw [hp] at q2
  rw [hz, show P.size + (x.size + 1 + (bk c L).size) = P.size + x.size + 1 + (bk c L).size by omega, q2, List.append_assoc]
  rfl
theorem js {c : UInt8} {L : List ByteArray} {r : ByteArray} (hf : ∀ x ∈ L, bF (c.toNat : Int) x) (hr : bF (c.toNat : Int) r) : av (bk c L ++ r) (c.toNat : Int) (bk c L ++ r).size = ((bk c L).size, L) ∧ (bk c L ++ r).extract (bk c L).size (bk c L ++ r).size = r := by
 have q := jt (c := c) r L ⟨#[]⟩ (bk c L ++ r) [] hf (by rw [fK]) rfl
 have e0 : (⟨#[]⟩ : ByteArray).size = 0 := rfl
 rw [e0, Nat.zero_add, List.nil_append] at q
 refine ⟨?_, ByteArray.extract_append_eq_right rfl (ByteArray.size_append ..)⟩
 rw [ByteArray.size_append, dn r.size (fun j h1 h2 => by
  have p := hr (j - (bk c L).size) (by omega)
  rw [← cB (bk c L) r, show (bk c L).size + (j - (bk c L).size) = j by omega] at p
  exact p)]
 exact q
theorem fU : ∀ (n : Nat) (L : List ByteArray), L.length = n → ∀ x, jnB (L ++ [x]) = bk 32 L ++ x
 | 0, L, h, x => by
  obtain rfl := List.length_eq_zero_iff.1 h
  rw [List.nil_append, jn1, bk, fK]
 | n + 1, L, h, x => by
  have hne : L ≠ [] := fun e => by rw [e] at h; cases h
  have e := List.dropLast_concat_getLast hne
  have hl : L.dropLast.length = n := by rw [List.length_dropLast, h]; rfl
  rw [← e, er x (by simp), fU n L.dropLast hl, fu]
  simp only [ByteArray.append_assoc]
  rfl
theorem ny {W : List ByteArray} (h0 : W ≠ []) (hf : ∀ x ∈ W, bF 32 x) : wdW (jnB W) 32 = W := by
 have e := List.dropLast_concat_getLast h0
 have hx : bF 32 (W.getLast h0) := hf _ (List.getLast_mem h0)
 have hL : ∀ x ∈ W.dropLast, bF 32 x := fun x hx => hf x (List.dropLast_subset W hx)
 have q := js (c := 32) (L := W.dropLast) (r := W.getLast h0) hL hx
 have ej : jnB W = bk 32 W.dropLast ++ W.getLast h0 := by rw [← fU _ _ rfl, e]
 have c32 : ((32 : UInt8).toNat : Int) = 32 := rfl
 rw [c32] at q
 rw [ej, wdW, q.1, q.2]
 exact e
theorem fx {L : List Int} (h : ∀ z ∈ L, 33 ≤ z ∧ z ≤ 255) : bF 32 (strOfNums L) := fun i hi => by
 rw [strOfNums_size] at hi
 rw [cj (fun z hz => ⟨by have := h z hz; omega, (h z hz).2⟩) hi, List.getD_eq_getElem?_getD, List.getElem?_eq_getElem hi]
 have := h _ (List.getElem_mem hi)
 show L[i] ≠ 32
 omega
theorem kK {c : Int} {a b : ByteArray} (ha : bF c a) (hb : bF c b) : bF c (a ++ b) := fun i hi => by
 by_cases h : i < a.size
 ·rw [fO h]; exact ha i h
 ·rw [ByteArray.size_append] at hi
  rw [show i = a.size + (i - a.size) by omega, cB]
  exact hb _ (by omega)
theorem el {c : Int} {b : UInt8} (h : (b.toNat : Int) ≠ c) : bF c ⟨#[b]⟩ := fun i hi => by
 have h0 : i = 0 := by
  have : i < 1 := hi
  omega
 subst h0
 exact h
theorem gO (K : Nat) : bF 32 (dgs K) := by
 rw [eh]
 exact fx fun z hz => by have := df (f := 20) (K := K) (L := []) (fun z hz => by cases hz) z hz; omega
theorem mg (n : Int) : bF 32 (txI n) := by
 unfold txI
 split
 ·exact el (by decide)
 ·split
  ·exact kK (el (by decide)) (gO _)
  ·exact gO _
theorem kL (s : ByteArray) : bF 32 (aZ s) := by
 unfold aZ
 split
 ·intro i hi; exact absurd hi (Nat.not_lt_zero _)
 ·split
  ·exact el (by decide)
  ·refine fx fun z hz => ?_
   have q : ∀ n, ∀ z ∈ hxL s n, 33 ≤ z ∧ z ≤ 255 := by
    intro n
    induction n with
    | zero => intro z hz; cases hz
    | succ n ih =>
     intro z hz
     rw [hxL, List.mem_append] at hz
     rcases hz with hz | hz
     ·exact ih z hz
     ·obtain ⟨b0, b1⟩ := cP s n
      have q1 := cV (x := bt s n / 16) (by omega) (by omega)
      have q2 := cV (x := bt s n % 16) (by omega) (by omega)
      simp at hz
      rcases hz with rfl | rfl <;> omega
   exact q _ z hz
theorem mf (K : Nat) (h : K ≤ 14) : bF 32 (nmK (K : Int)) := by
 have q : ∀ K : Fin 15, ∀ i : Fin 8, i.val < (nmK (K.val : Int)).size → bt (nmK (K.val : Int)) i.val ≠ 32 := by decide +kernel
 have q2 : ∀ K : Fin 15, (nmK (K.val : Int)).size ≤ 8 := by decide +kernel
 exact fun i hi => q ⟨K, by omega⟩ ⟨i, Nat.lt_of_lt_of_le hi (q2 ⟨K, by omega⟩)⟩ hi
end Go.Proofs.YtddjiamollfplaaGreatDoor
