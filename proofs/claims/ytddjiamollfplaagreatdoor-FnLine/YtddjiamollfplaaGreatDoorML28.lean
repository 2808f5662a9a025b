/- A text cut at a byte (both sides). -/
import Derived.Laws.Externs
import Derived.Lib.Bytealg
import Derived.Laws.MakeOwn
import Derived.Lib.OthersKept
import Derived.Laws.RangeAny
import Derived.Laws.DeepStrings4
import Derived.WalkSmall
import Derived.Test.YtddjiamollfplaaGreatDoorML22
namespace Go.Proofs.YtddjiamollfplaaGreatDoor
open Go.RowKit
set_option linter.unusedVariables false

def cutF (s : ByteArray) (c : Int) : Nat → Nat × List ByteArray
 | 0 => (0, [])
 | i + 1 => if bt s i = c then (i + 1, (cutF s c i).2 ++ [s.extract (cutF s c i).1 i]) else cutF s c i
theorem cutF_no {s : ByteArray} {c : Int} {i : Nat} (h : bt s i ≠ c) : cutF s c (i + 1) = cutF s c i := by rw [cutF, if_neg h]
theorem cutF_yes {s : ByteArray} {c : Int} {i : Nat} (h : bt s i = c) : cutF s c (i + 1) = (i + 1, (cutF s c i).2 ++ [s.extract (cutF s c i).1 i]) := by rw [cutF, if_pos h]
theorem cutF_le (s : ByteArray) (c : Int) : ∀ i, (cutF s c i).1 ≤ i ∧ (cutF s c i).2.length ≤ i
 | 0 => ⟨Nat.le_refl _, Nat.le_refl _⟩
 | i + 1 => by
  have q := cutF_le s c i
  by_cases h : bt s i = c
  ·rw [cutF_yes h]
   refine ⟨Nat.le_refl _, ?_⟩
   show ((cutF s c i).2 ++ [s.extract (cutF s c i).1 i]).length ≤ i + 1
   rw [List.length_append]
   show _ + 1 ≤ i + 1
   omega
  ·rw [cutF_no h]; omega
theorem cutF_run {s : ByteArray} {c : Int} {i : Nat} : ∀ k, (∀ j, i ≤ j → j < i + k → bt s j ≠ c) → cutF s c (i + k) = cutF s c i
 | 0, _ => rfl
 | k + 1, h => by
  rw [← Nat.add_assoc, cutF_no (h (i + k) (by omega) (by omega))]
  exact cutF_run k fun j h1 h2 => h j h1 (by omega)
def wdW (s : ByteArray) (c : Int) : List ByteArray := (cutF s c s.size).2 ++ [s.extract (cutF s c s.size).1 s.size]
def cutH (s : ByteArray) (j : Nat) : Nat × List ByteArray := if j ≤ s.size then cutF s 32 j else (s.size + 1, wdW s 32)
theorem cutH_lt {s : ByteArray} {j : Nat} (h : j ≤ s.size) : cutH s j = cutF s 32 j := by rw [cutH, if_pos h]
theorem cutH_end (s : ByteArray) : cutH s (s.size + 1) = (s.size + 1, wdW s 32) := by rw [cutH, if_neg (by omega)]
theorem bt_get (s : ByteArray) (i : Nat) : bt s i = ((s.get! i).toNat : Int) := by
 cases s with
 | mk d =>
  show ((d.getD i 0).toNat : Int) = ((d[i]!).toNat : Int)
  rw [Array.getD_eq_getD_getElem?, Array.getElem!_eq_getD, Array.getD_eq_getD_getElem?]
  rfl
theorem bt_at {s : ByteArray} {i : Nat} (h : i < s.size) : bt s i = ((s[i]'h).toNat : Int) := by
 rw [bt_get]
 have e := get_at s i h
 rw [Nat.add_zero] at e
 rw [e]
theorem dec_step {s : ByteArray} {pos : Nat} (h : pos < s.size) {c : Int} (c0 : 0 ≤ c) (c1 : c < 128) :
 1 ≤ (Utf8.decode s pos).2 ∧ pos + (Utf8.decode s pos).2 ≤ s.size ∧ (((Utf8.decode s pos).1 : Int) = c → bt s pos = c ∧ (Utf8.decode s pos).2 = 1) ∧ (¬ ((Utf8.decode s pos).1 : Int) = c → ∀ j, pos ≤ j → j < pos + (Utf8.decode s pos).2 → bt s j ≠ c) := by
 have hb := bt_at h
 by_cases ha : (s[pos]'h).toNat < 128
 ·rw [decode_ascii s pos h ha]
  refine ⟨Nat.le_refl _, by show pos + 1 ≤ s.size; omega, fun e => ⟨by rw [hb]; exact e, rfl⟩, fun e j h1 h2 => ?_⟩
  have ej : j = pos := by
   have h2 : j < pos + 1 := h2
   omega
  subst ej
  rw [hb]
  exact e
 ·have q := decode_high s pos h (by omega)
  have big : pos + (Utf8.decode s pos).2 ≤ s.size ∧ ∀ k, 1 ≤ k → k < (Utf8.decode s pos).2 → 128 ≤ (s.get! (pos + k)).toNat := by
   have hn : ¬ (s[pos]'h).toNat < 128 := ha
   simp only [Utf8.decode, get_at s pos h, hn, if_false]
   repeat' split
   all_goals (first | (refine ⟨by show pos + 1 ≤ s.size; omega, fun k h1 h2 => ?_⟩; (have h2 : k < 1 := h2); omega) | skip)
   ·rename_i g _
    simp only [Bool.and_eq_true, beq_iff_eq, decide_eq_true_eq] at g
    refine ⟨by show pos + 2 ≤ s.size; omega, fun k h1 h2 => ?_⟩
    have h2 : k < 2 := h2
    obtain rfl : k = 1 := by omega
    omega
   ·rename_i g _
    simp only [Bool.and_eq_true, beq_iff_eq, decide_eq_true_eq] at g
    refine ⟨by show pos + 3 ≤ s.size; omega, fun k h1 h2 => ?_⟩
    have h2 : k < 3 := h2
    rcases (show k = 1 ∨ k = 2 by omega) with rfl | rfl <;> omega
   ·rename_i g _
    simp only [Bool.and_eq_true, beq_iff_eq, decide_eq_true_eq] at g
    refine ⟨by show pos + 4 ≤ s.size; omega, fun k h1 h2 => ?_⟩
    have h2 : k < 4 := h2
    rcases (show k = 1 ∨ k = 2 ∨ k = 3 by omega) with rfl | rfl | rfl <;> omega
  refine ⟨q.2, big.1, fun e => absurd e (by omega), fun _ j h1 h2 e => ?_⟩
  by_cases ej : j = pos
  ·subst ej
   rw [hb] at e
   omega
  ·have g := big.2 (j - pos) (by omega) (by omega)
   rw [show pos + (j - pos) = j by omega] at g
   rw [bt_get] at e
   omega
theorem add_strsN {w : World} {ops : Array Oper} {rest : List Oper} {o : Oper} {a : Act} {Q : Exit → Act → World → Prop} (hgd : o.guard = none) (s x : Operand)
 (ho : o.op = .call { callee := .builtin .append, args := #[s, x], argTypes := #[46, 46] }) (base : Nat) (L M : List ByteArray) (v : Value) (hs : a.eval s = v) (hown : w.ownsRow base 9 1 v L.length (stR L))
 (ad : Addr) (c : Nat) (hx : a.eval x = .slice (some ad) M.length c) (hM : ∀ j u, (stR M)[j]? = some u → w.cell? (ad.add j) = some u) (hL : L.length + M.length ≤ 1000000) (hbase : base ≤ w.heap.size)
 (h : ∀ v' w', w'.ownsRow base 9 1 v' (L ++ M).length (stR (L ++ M)) → w.grownBy w' v.ownBlock → wpList Tryz.prog ops Q rest (a.put o.dst v') w') :
 wpList Tryz.prog ops Q (o :: rest) a w := by
 obtain ⟨i0, hi, hz0, hz1, hz2⟩ := info_parts info_str
 refine wpList_append_own w hgd s x 46 ho base 9 i0 (.string ⟨#[]⟩) 1 16 Tryz.underlying46 hi hz0 hz1 hz2 rfl (by decide) v L.length (stR L) hs hown ad M.length c (stR M) hx (by rw [stR_len, Nat.mul_one]) hM (stR_one M) (by unfold maxLen; omega) (by omega) hbase ?_
 intro v' w' h1 h2 _
 exact h v' w' (by rw [srow_app, List.length_append]; exact h1) h2
theorem strs_nil (w : World) : (w.alloc (.cells #[] 9)).ownsRow w.heap.size 9 1 (.slice (some ⟨w.heap.size, 0, none⟩) 0 0) ([] : List ByteArray).length (stR []) := strs_new w [] (by show (0 : Nat) ≤ 64; omega)
set_option maxRecDepth 100000 in
set_option maxHeartbeats 8000000 in
theorem specWords_any (s : ByteArray) (w : World) (hs : s.size ≤ 20000) :
 Calls Tryz.prog 35 #[.string s] w fun e w' => ∃ v, e = .returned v ∧ w'.ownsRow w.heap.size 9 1 v (wdW s 32).length (stR (wdW s 32)) ∧ Below w.heap.size w w' := by
 have O0 := strs_nil w
 have B0 := Below.nw w (.cells #[] 9)
 have HG : Hid (cutH s 0 = (0, [])) := by (show cutH s 0 = _; rw [cutH_lt (Nat.zero_le _)]; rfl)
 go_enter Tryz.func35, Tryz.ntmps35
 go_wp2_with fail
 go_loopw [3, 4, 5] (fun v fr i wr => ∃ (j F : Nat) (L : List ByteArray), j ≤ s.size + 1 ∧ i = .int .i64 (j : Int) ∧ fr = .int .i64 (F : Int) ∧ cutH s j = (F, L) ∧ wr.ownsRow w.heap.size 9 1 v L.length (stR L) ∧ Below w.heap.size w wr) (fun _ _ i _ => s.size + 1 - (intOf i).toNat)
 case atStart => exact ⟨0, 0, [], Nat.zero_le _, rfl, rfl, HG.out, O0, B0⟩
 case round =>
  clear O0 B0 HG
  obtain ⟨j, F, L, hj, rfl, rfl, hG, O, B⟩ := hrel
  have hlo : w.heap.size ≤ wr.heap.size := B.size
  by_cases hle : j ≤ s.size
  ·have hli : (j : Int) ≤ (s.size : Int) := by omega
   have hc := cutF_le s 32 j
   have hFj : F ≤ j := by
    have e := (cutH_lt hle).symm.trans hG
    rw [e] at hc
    exact hc.1
   have hLj : L.length ≤ j := by
    have e := (cutH_lt hle).symm.trans hG
    rw [e] at hc
    exact hc.2
   have hF : (F : Int) ≤ (j : Int) := by omega
   have HG : Hid (cutH s j = (F, L)) := hG
   clear hG hc
   by_cases hap : j = s.size ∨ bt s j = 32
   ·have HN : Hid (cutH s (j + 1) = (j + 1, L ++ [s.extract F j])) := by
     show cutH s (j + 1) = _
     by_cases he : j = s.size
     ·subst he
      rw [cutH_end, wdW, (cutH_lt hle).symm.trans HG.out]
     ·have h32 : bt s j = 32 := hap.resolve_left he
      rw [cutH_lt (by omega), cutF_yes h32, (cutH_lt hle).symm.trans HG.out]
    have hev : j = s.size ∨ (j < s.size ∧ bt s j = 32) := by
     rcases hap with h | h
     ·exact .inl h
     ·by_cases he : j = s.size
      ·exact .inl he
      ·exact .inr ⟨by omega, h⟩
    clear hap HG
    have b7 := Below.nw wr (.cells (stR [s.extract F j]).toArray 9)
    have HM := strs_cell wr [s.extract F j]
    replace O := own_belowG O b7
    replace hlo := Nat.le_trans hlo b7.size
    replace B := B.trans (b7.mono B.size)
    change ∀ j_1 u, (stR [s.extract F j])[j_1]? = some u → (wr.alloc (.cells #[.string (s.extract F j)] 9)).cell? ((⟨wr.heap.size, 0, none⟩ : Addr).add j_1) = some u at HM
    change (wr.alloc (.cells #[.string (s.extract F j)] 9)).ownsRow w.heap.size 9 1 _ L.length (stR L) at O
    change w.heap.size ≤ (wr.alloc (.cells #[.string (s.extract F j)] 9)).heap.size at hlo
    change Below w.heap.size w (wr.alloc (.cells #[.string (s.extract F j)] 9)) at B
    clear b7
    rcases hev with he | ⟨hlt, h32⟩
    ·have hq : ((j : Int) == (s.size : Int)) = true := by simp [he]
     clear he
     go_wp2_with (at_builtin; refine add_strsN rfl _ _ rfl w.heap.size L [s.extract F j] _ rfl O ⟨wr.heap.size, 0, none⟩ 1 rfl HM (by show L.length + 1 ≤ 1000000; omega) hlo ?_; intro v8 w8 O8 hg8)
     have Bg := grown_belowG O hg8 hlo
     replace B := B.trans Bg
     clear Bg O hg8 HM hlo
     go_wp2_with fail
     go_roundw
     case rel => exact ⟨j + 1, j + 1, _, by omega, by go_num, by go_num, HN.out, O8, B⟩
     case measure => simp [intOf]; omega
    ·have hq : ((j : Int) == (s.size : Int)) = false := by simp; omega
     have hx := run_idx s j hlt
     rw [h32] at hx
     go_wp2_with (at_builtin; refine add_strsN rfl _ _ rfl w.heap.size L [s.extract F j] _ rfl O ⟨wr.heap.size, 0, none⟩ 1 rfl HM (by show L.length + 1 ≤ 1000000; omega) hlo ?_; intro v8 w8 O8 hg8)
     have Bg := grown_belowG O hg8 hlo
     replace B := B.trans Bg
     clear Bg O hg8 HM hlo
     go_wp2_with fail
     go_roundw
     case rel => exact ⟨j + 1, j + 1, _, by omega, by go_num, by go_num, HN.out, O8, B⟩
     case measure => simp [intOf]; omega
   ·have hlt : j < s.size := by omega
    have h32 : ¬ bt s j = 32 := fun h => hap (.inr h)
    have HN : Hid (cutH s (j + 1) = (F, L)) := by
     show cutH s (j + 1) = _
     rw [cutH_lt (by omega), cutF_no h32]
     exact (cutH_lt hle).symm.trans HG.out
    have hq : ((j : Int) == (s.size : Int)) = false := by simp; omega
    have hq2 : (bt s j == 32) = false := by simp [h32]
    have hx := run_idx s j hlt
    clear hap HG
    generalize bt s j = bb at *
    go_wp2_with fail
    go_roundw
    case rel => exact ⟨j + 1, F, L, by omega, by go_num, rfl, HN.out, O, B⟩
    case measure => simp [intOf]; omega
  ·have hli : ¬ (j : Int) ≤ (s.size : Int) := by omega
   have ej : j = s.size + 1 := by omega
   have hW : L = wdW s 32 := by
    rw [ej, cutH_end] at hG
    exact (Prod.mk.inj hG).2.symm
   subst hW
   clear hG ej
   go_wp2_with fail
   go_ret
   exact ⟨_, rfl, O, B⟩
set_option maxRecDepth 100000 in
set_option maxHeartbeats 8000000 in
theorem cutAt_any (s : ByteArray) (c : Int) (c0 : 0 ≤ c) (c1 : c < 128) (w : World) (hs : s.size ≤ 20000) :
 Calls Tryz.prog 49 #[.string s, .int .i32 c] w fun e w' => ∃ v, e = .returned (.tuple #[v, .string (s.extract (cutF s c s.size).1 s.size)]) ∧ w'.ownsRow (w.heap.size + 1) 9 1 v (cutF s c s.size).2.length (stR (cutF s c s.size).2) ∧ Below w.heap.size w w' ∧ w.heap.size + 1 ≤ w'.heap.size := by
 have hk0 : (w.iter s 0).heap[w.heap.size]? = some (.stringIter s 0) := World.iter_heap w s 0
 have B0 : Below w.heap.size w (w.iter s 0) := (Below.refl _ w).alloc (Nat.le_refl _) _
 have hl0 : w.heap.size + 1 ≤ (w.iter s 0).heap.size := by simp [World.iter]
 go_enter Tryz.func49, Tryz.ntmps49
 go_wp2_with fail
 generalize w.iter s 0 = v0 at *
 go_loopw [4, 6] (fun v fr wr => ∃ pos : Nat, pos ≤ s.size ∧ wr.heap[w.heap.size]? = some (.stringIter s pos) ∧ fr = .int .i64 ((cutF s c pos).1 : Int) ∧ wr.ownsRow (w.heap.size + 1) 9 1 v (cutF s c pos).2.length (stR (cutF s c pos).2) ∧ Below w.heap.size w wr ∧ w.heap.size + 1 ≤ wr.heap.size) (fun _ _ wr => s.size - wr.iterPos w.heap.size)
 case atStart => exact ⟨0, Nat.zero_le _, hk0, rfl, World.ownsRow_nil _ _ _ _, B0, hl0⟩
 case round =>
  clear hk0 B0 hl0
  obtain ⟨pos, hps, hk, rfl, O, B, hlo⟩ := hrel
  have hc := cutF_le s c pos
  by_cases hp : pos < s.size
  ·obtain ⟨d1, d2, d3, d4⟩ := dec_step hp c0 c1
   have hnext := fun ty => Lib.run_next_any_at (P := Tryz.prog) wr w.heap.size s pos ty hk hp
   have hmu : wr.iterPos w.heap.size = pos := iterPos_of hk
   generalize (Utf8.decode s pos).1 = R at *
   generalize (Utf8.decode s pos).2 = W at *
   replace O := ownsRow_iterAt O (Nat.lt_succ_self _) s (pos + W)
   replace B := Lib.below_iterAt B (Nat.le_refl _) s (pos + W)
   have hk1 := Lib.iterAt_heap wr w.heap.size s pos (pos + W) hk
   have hlo1 : w.heap.size + 1 ≤ (wr.iterAt w.heap.size s (pos + W)).heap.size := by rw [Lib.iterAt_size]; exact hlo
   clear hk hlo
   have hlo := hlo1
   clear hlo1
   have hF : ((cutF s c pos).1 : Int) ≤ (pos : Int) := by omega
   have hps2 : (pos : Int) ≤ (s.size : Int) := by omega
   have hmle : s.size - (pos + W) < s.size - wr.iterPos w.heap.size := by omega
   generalize wr.iterPos w.heap.size = ip at *
   by_cases hr : (R : Int) = c
   ·obtain ⟨hb, hW⟩ := d3 hr
    subst hW
    have hq : ((R : Int) == c) = true := by simp [hr]
    have HN : Hid (cutF s c (pos + 1) = (pos + 1, (cutF s c pos).2 ++ [s.extract (cutF s c pos).1 pos])) := cutF_yes hb
    clear d3 d4 hb hr
    generalize (cutF s c pos).1 = F at *
    generalize (cutF s c pos).2 = L at *
    generalize wr.iterAt w.heap.size s (pos + 1) = v1 at *
    have b7 := Below.nw v1 (.cells (stR [s.extract F pos]).toArray 9)
    have HM := strs_cell v1 [s.extract F pos]
    have hk2 := (b7.block _ (by omega)).trans hk1
    replace O := own_belowG O b7
    replace hlo := Nat.le_trans hlo b7.size
    replace B := B.trans (b7.mono B.size)
    change ∀ j u, (stR [s.extract F pos])[j]? = some u → (v1.alloc (.cells #[.string (s.extract F pos)] 9)).cell? ((⟨v1.heap.size, 0, none⟩ : Addr).add j) = some u at HM
    change (v1.alloc (.cells #[.string (s.extract F pos)] 9)).ownsRow (w.heap.size + 1) 9 1 _ L.length (stR L) at O
    change w.heap.size + 1 ≤ (v1.alloc (.cells #[.string (s.extract F pos)] 9)).heap.size at hlo
    change Below w.heap.size w (v1.alloc (.cells #[.string (s.extract F pos)] 9)) at B
    change (v1.alloc (.cells #[.string (s.extract F pos)] 9)).heap[w.heap.size]? = _ at hk2
    clear b7 hk1
    go_wp2_with (first | rw [hnext] | (at_builtin; refine add_strsN rfl _ _ rfl (w.heap.size + 1) L [s.extract F pos] _ rfl O ⟨v1.heap.size, 0, none⟩ 1 rfl HM (by show L.length + 1 ≤ 1000000; omega) hlo ?_; intro v8 w8 O8 hg8))
    have Bg := grown_belowG O hg8 hlo
    have hk3 := (Bg.block _ (Nat.lt_succ_self _)).trans hk2
    replace B := B.trans (Bg.mono (Nat.le_succ _))
    have hlo3 := Nat.le_trans hlo Bg.size
    have hmu3 : w8.iterPos w.heap.size = pos + 1 := iterPos_of hk3
    clear Bg O hg8 HM hlo hk2
    go_wp2_with fail
    go_roundw
    case rel => exact ⟨pos + 1, by omega, hk3, by rw [HN.out]; go_num, by rw [HN.out]; exact O8, B, hlo3⟩
    case measure => omega
   ·have hq : ((R : Int) == c) = false := by simp [hr]
    have HN : Hid (cutF s c (pos + W) = cutF s c pos) := cutF_run W (d4 hr)
    clear d3 d4 hr
    have hmu3 : (wr.iterAt w.heap.size s (pos + W)).iterPos w.heap.size = pos + W := iterPos_of hk1
    generalize wr.iterAt w.heap.size s (pos + W) = v1 at *
    go_wp2_with (rw [hnext])
    go_roundw
    case rel => exact ⟨pos + W, d2, hk1, by rw [HN.out], by rw [HN.out]; exact O, B, hlo⟩
    case measure => omega
  ·have hnext := fun ty => Lib.run_next_end_at (P := Tryz.prog) wr w.heap.size s pos ty hk hp
   obtain rfl : pos = s.size := by omega
   have hF : ((cutF s c s.size).1 : Int) ≤ (s.size : Int) := by omega
   clear hk
   go_wp2_with (rw [hnext])
   clear hnext
   go_region
   all_goals go_wp2_with fail
   go_ret2
   exact ⟨_, rfl, O, B.drew, hlo⟩
set_option maxRecDepth 100000 in
set_option maxHeartbeats 8000000 in
theorem lineWords_any (s : ByteArray) (w : World) (hs : s.size ≤ 20000) :
 Calls Tryz.prog 28 #[.string s] w fun e w' => ∃ v, e = .returned v ∧ w'.ownsRow w.heap.size 9 1 v (wdW s 32).length (stR (wdW s 32)) ∧ Below w.heap.size w w' := by
 have hc := (cutF_le s 32 s.size).2
 go_enter Tryz.func28, Tryz.ntmps28
 go_wp2_with fail
 refine (cutAt_any s 32 (by decide) (by decide) w hs).mono ?_
 rintro e v1 ⟨v, rfl, O, B, hlo⟩
 have HW : Hid (wdW s 32 = (cutF s 32 s.size).2 ++ [s.extract (cutF s 32 s.size).1 s.size]) := rfl
 have b7 := Below.nw v1 (.cells (stR [s.extract (cutF s 32 s.size).1 s.size]).toArray 9)
 have HM := strs_cell v1 [s.extract (cutF s 32 s.size).1 s.size]
 replace O := own_belowG O b7
 replace hlo := Nat.le_trans hlo b7.size
 replace B := B.trans (b7.mono B.size)
 change ∀ j u, (stR [s.extract (cutF s 32 s.size).1 s.size])[j]? = some u → (v1.alloc (.cells #[.string (s.extract (cutF s 32 s.size).1 s.size)] 9)).cell? ((⟨v1.heap.size, 0, none⟩ : Addr).add j) = some u at HM
 change (v1.alloc (.cells #[.string (s.extract (cutF s 32 s.size).1 s.size)] 9)).ownsRow (w.heap.size + 1) 9 1 _ (cutF s 32 s.size).2.length (stR (cutF s 32 s.size).2) at O
 change w.heap.size + 1 ≤ (v1.alloc (.cells #[.string (s.extract (cutF s 32 s.size).1 s.size)] 9)).heap.size at hlo
 change Below w.heap.size w (v1.alloc (.cells #[.string (s.extract (cutF s 32 s.size).1 s.size)] 9)) at B
 clear b7
 generalize s.extract (cutF s 32 s.size).1 s.size = nw at *
 generalize (cutF s 32 s.size).2 = L at *
 go_wp2_with (at_builtin; refine add_strsN rfl _ _ rfl (w.heap.size + 1) L [nw] _ rfl O ⟨v1.heap.size, 0, none⟩ 1 rfl HM (by show L.length + 1 ≤ 1000000; omega) hlo ?_; intro v8 w8 O8 hg8)
 have Bg := grown_belowG O hg8 hlo
 replace B := B.trans (Bg.mono (Nat.le_succ _))
 clear Bg O hg8 HM hlo
 go_wp2_with fail
 go_ret
 exact ⟨_, rfl, by rw [HW.out]; exact own_baseX O8 (Nat.le_succ _), B⟩

end Go.Proofs.YtddjiamollfplaaGreatDoor
