/- ParseOp (the specification). -/
import Derived.Test.YtddjiamollfplaaGreatDoorML0
import Derived.Test.YtddjiamollfplaaGreatDoorML29
import Derived.Test.YtddjiamollfplaaGreatDoorML40
namespace Go.Proofs.YtddjiamollfplaaGreatDoor
open Go.RowKit
set_option linter.unusedVariables false

theorem paW_badj {W : List ByteArray} {K j : Nat} {L : List Int} {t : ByteArray} {c : Int} (hK : kdL (W.getD 0 ⟨#[]⟩) 14 = K) (h : K ≠ 0) (hm : mOk K W.length = true) (h2 : rdF W (opT (K : Int)) j = (L, t, c)) (hc : c ≠ 0) (hj : j ≤ W.length - 1) : paW W = (zOp0, c) := by
 have e : rdF W (opT (K : Int)) (W.length - 1) = (L, t, c) := by
  have q := rdF_bad (W := W) (tb := opT (K : Int)) (j := j) (by rw [h2]; exact hc) (W.length - 1 - j)
  rw [show j + (W.length - 1 - j) = W.length - 1 by omega, h2] at q
  exact q
 rw [paW_bad hK h hm (by rw [e]; exact hc), e]
theorem rdF_le (W : List ByteArray) (tb : Bool) : ∀ j, (rdF W tb j).1.length ≤ j
 | 0 => Nat.le_refl _
 | j + 1 => by
  have q := rdF_le W tb j
  unfold rdF
  repeat' split
  all_goals first | (show (rdF W tb j).1.length ≤ j + 1; omega) | (show ((rdF W tb j).1 ++ [_]).length ≤ j + 1; rw [List.length_append]; show _ + 1 ≤ _; omega)
theorem fhO_le (s : ByteArray) : (fhO s).size ≤ s.size := by
 unfold fhO
 split
 ·exact Nat.zero_le _
 ·split
  ·rw [strOfNums_size, fhL_len]; omega
  ·exact Nat.zero_le _
theorem rdF_tx (W : List ByteArray) (tb : Bool) {z : Nat} (h : ∀ i, (W.getD i ⟨#[]⟩).size ≤ z) : ∀ j, (rdF W tb j).2.1.size ≤ z
 | 0 => Nat.zero_le _
 | j + 1 => by
  have q := rdF_tx W tb h j
  have e := Nat.le_trans (fhO_le (W.getD (j + 1) ⟨#[]⟩)) (h (j + 1))
  unfold rdF
  (repeat' split) <;> first | exact q | exact e
theorem opZ_tx (k : Int) (L : List Int) (t : ByteArray) : (opZ k L t).tx = t := by
 unfold opZ
 (repeat' split) <;> rfl
theorem cnK_le (k : Int) : cnK k ≤ 3 := by unfold cnK; (repeat' split) <;> omega
theorem cnK_pos (k : Int) : 1 ≤ cnK k := by unfold cnK; (repeat' split) <;> omega
theorem opZ_n (k : Int) (L : List Int) (t : ByteArray) : (opZ k L t).n ≤ L.length := by
 unfold opZ
 repeat' split
 all_goals first | exact Nat.zero_le _ | exact Nat.sub_le _ _
theorem own_cap {w : World} {base n c : Nat} {T : TypeId} {sz : Nat} {ad : Addr} {xs : List Value} (h : w.ownsRow base T sz (.slice (some ad) n c) n xs) : n ≤ c := by
 rcases h.2 with ⟨e, _⟩ | ⟨g, cap, cur, e, _, _, h3, _⟩
 ·cases e
 ·cases e; exact h3
theorem word_at {W : List ByteArray} {i : Nat} (h : i < W.length) : W[i]? = some (W.getD i ⟨#[]⟩) := by
 rw [List.getD_eq_getElem?_getD, List.getElem?_eq_getElem h]
 rfl
attribute [-go_sem] loadCells storeCells in
set_option maxRecDepth 100000 in
set_option maxHeartbeats 8000000 in
theorem specParse_long (s : ByteArray) (w : World) (hm : s.size ≤ maxLen) (hs : 20000 < s.size) :
 Calls Tryz.prog 12 #[.string s] w fun e w' => ∃ p c, e = .returned (.tuple #[.agg (opV (paS s).1 p c), .int .i64 (paS s).2]) ∧ LsA w' w.heap.size p (paS s).1.n c (paS s).1.f ∧ Below w.heap.size w w' := by
 unfold maxLen at hm
 have HPS : Hid (paS s = (zOp0, 1)) := paS_long hs
 have hd : (20000 : Int) < (s.size : Int) := by omega
 have B := Below.nw w (.cells #[.int .i64 0, .int .i64 0, .int .i64 0, .int .i64 0, .int .i64 0, .string ⟨#[]⟩, .slice none 0 0] 26)
 have R := Bo.new w #[.int .i64 0, .int .i64 0, .int .i64 0, .int .i64 0, .int .i64 0, .string ⟨#[]⟩, .slice none 0 0] 26
 go_enter Tryz.func12, Tryz.ntmps12
 go_upto_region 1 with fail
 generalize w.alloc (.cells #[.int .i64 0, .int .i64 0, .int .i64 0, .int .i64 0, .int .i64 0, .string ⟨#[]⟩, .slice none 0 0] 26) = v0 at *
 have hst := Bo.store (P := Tryz.prog) (b := 0) [.int .i64 0, .int .i64 0, .int .i64 0, .int .i64 0, .int .i64 0, .string ⟨#[]⟩, .slice none 0 0] 0 0 R rfl (by simp) (opV_one zOp0 none 0)
 replace R : Bo (putA v0 w.heap.size 0 [.int .i64 0, .int .i64 0, .int .i64 0, .int .i64 0, .int .i64 0, .string ⟨#[]⟩, .slice none 0 0]) w.heap.size #[.int .i64 0, .int .i64 0, .int .i64 0, .int .i64 0, .int .i64 0, .string ⟨#[]⟩, .slice none 0 0] := R.putW (U := #[.int .i64 0, .int .i64 0, .int .i64 0, .int .i64 0, .int .i64 0, .string ⟨#[]⟩, .slice none 0 0]) rfl
 replace B := putA_below (k := w.heap.size) [.int .i64 0, .int .i64 0, .int .i64 0, .int .i64 0, .int .i64 0, .string ⟨#[]⟩, .slice none 0 0] w v0 0 B (Nat.le_refl _)
 go_wp2_with (rw [hst])
 clear hst
 generalize putA v0 w.heap.size 0 [.int .i64 0, .int .i64 0, .int .i64 0, .int .i64 0, .int .i64 0, .string ⟨#[]⟩, .slice none 0 0] = vz at *
 have hL := R.load (P := Tryz.prog) (n := 7) rfl
 (try simp only [Exit.inBlock, Exit.then])
 have HPA : paS s = (zOp0, 1) := HPS.out
 exact bodyPost_ret (v := .tuple #[.agg #[.int .i64 0, .int .i64 0, .int .i64 0, .int .i64 0, .int .i64 0, .string ⟨#[]⟩, .slice none 0 0], .int .i64 1]) (by simp [results, Tryz.results12, go_sem]; rw [hL]; rfl) rfl ⟨none, 0, by rw [HPA]; rfl, by rw [HPA]; exact .inl ⟨rfl, rfl, rfl⟩, B⟩
attribute [-go_sem] loadCells storeCells in
set_option maxRecDepth 100000 in
set_option maxHeartbeats 8000000 in
theorem specParse_few (s : ByteArray) (w : World) (hs : s.size ≤ 20000) :
 Calls Tryz.prog 12 #[.string s] w fun e w' => ∃ p c, e = .returned (.tuple #[.agg (opV (paS s).1 p c), .int .i64 (paS s).2]) ∧ LsA w' w.heap.size p (paS s).1.n c (paS s).1.f ∧ Below w.heap.size w w' := by
 have HPS : Hid (paS s = paW (wdW s 32)) := paS_few (by omega)
 have hd : ¬ (20000 : Int) < (s.size : Int) := by omega
 have B := Below.nw w (.cells #[.int .i64 0, .int .i64 0, .int .i64 0, .int .i64 0, .int .i64 0, .string ⟨#[]⟩, .slice none 0 0] 26)
 have R := Bo.new w #[.int .i64 0, .int .i64 0, .int .i64 0, .int .i64 0, .int .i64 0, .string ⟨#[]⟩, .slice none 0 0] 26
 go_enter Tryz.func12, Tryz.ntmps12
 go_upto_region 1 with fail
 generalize w.alloc (.cells #[.int .i64 0, .int .i64 0, .int .i64 0, .int .i64 0, .int .i64 0, .string ⟨#[]⟩, .slice none 0 0] 26) = v0 at *
 go_wp2_with fail
 refine (specWords_any s v0 hs).mono ?_
 rintro e v1 ⟨u, rfl, OW, hb⟩
 replace B := B.trans (hb.mono B.size)
 replace R := R.below hb
 obtain ⟨hWp, hWl⟩ := wdW_pos s 32
 have HWE : Hid (∀ i, ((wdW s 32).getD i ⟨#[]⟩).size ≤ s.size) := wd_size (wdW_each s 32)
 generalize wdW s 32 = W at *
 obtain ⟨g, cap, rfl, hg, hcap, hcells⟩ := own_strs OW hWp
 have HC : Hid (∀ i, i < W.length → ∀ v, Below v1.heap.size v1 v → v.cell? ⟨g, i, none⟩ = some (.string (W.getD i ⟨#[]⟩))) := fun i hi v hv => by
  have q := hcells i _ (word_at hi)
  rw [Nat.zero_add] at q
  rw [hv.cell (p := ⟨g, i, none⟩) hg]
  exact q
 clear hcells OW hb hd
 have HT : Hid (∀ v, Below v1.heap.size v1 v → v.cell? ⟨g, 0, none⟩ = some (.string (W.getD 0 ⟨#[]⟩))) := HC.out 0 hWp
 have HKK : Hid (kdL (W.getD 0 ⟨#[]⟩) 14 = kdL (W.getD 0 ⟨#[]⟩) 14) := rfl
 generalize hTT : W.getD 0 ⟨#[]⟩ = T at HT HKK
 go_wp2_with fail
 go_loopw [5, 6] (fun kd k wr => ∃ j : Nat, j ≤ 14 ∧ k = .int .i64 ((j + 1 : Nat) : Int) ∧ kd = .int .i64 (kdL T j : Int) ∧ Below v1.heap.size v1 wr) (fun _ k _ => 15 - (intOf k).toNat)
 case atStart => exact ⟨0, by omega, rfl, rfl, Below.refl _ _⟩
 case round =>
  obtain ⟨j, hj, rfl, rfl, B1⟩ := hrel
  by_cases hlt : j < 14
  ·have hli : (((j + 1 : Nat) : Int)) ≤ 14 := by omega
   have hi0 : (0 : Int) < (W.length : Int) := by omega
   have CN := specName_any ((j + 1 : Nat) : Int)
   have SK : Hid (∀ w', Below wr.heap.size wr w' → (fun w' => w'.cell? ⟨g, 0, none⟩ = some (.string T)) w') := fun w' hw => HT.out w' (B1.trans (hw.mono B1.size))
   have HKJ : Hid (kdL T (j + 1) = if (T.toList == (nmK ((j + 1 : Nat) : Int)).toList) = true then j + 1 else kdL T j) := rfl
   generalize nmK ((j + 1 : Nat) : Int) = nm at *
   go_wp2_with fail
   refine wp_region_held_drew (S := (fun w' => w'.cell? ⟨g, 0, none⟩ = some (.string T))) (by kernel_rfl) ?_ (fun hHeld => ?_)
   ·first | exact SK.out _ XB | exact SK.out _ (Below.drew (Below.refl _ _))
   have XB : Below wr.heap.size wr wr.drew := Below.drew (Below.refl _ _)
   generalize wr.drew = vx at *
   refine zTk 0 ?_
   refine zTk 1 ?_
   refine zTk 2 ?_
   refine zTk 3 ?_
   refine wpAnyH_ready (rs := [4]) (by kernel_rfl) (by simp) ?_
   refine AllReadyH.cons (by rw [List.getElem?_toArray]; rfl) (fun K hK => ?_) AllReadyH.nil
   go_simp
   refine (CN _).mono ?_; rintro ee vx ⟨rfl, hbl⟩; (replace XB := XB.trans (hbl.mono XB.size)); (clear hbl)
   (try go_wp2_with fail)
   refine hK.out _ _ ?_ (fun hHeld => ?_)
   ·first | exact SK.out _ XB | exact SK.out _ (Below.drew (Below.refl _ _))
   clear hK K
   (try simp only [Act.put, zSb, zS0, zS1])
   refine zTk 5 ?_
   refine wpAnyH_done (by kernel_rfl) ?_ _
   have B2 := B1.trans (XB.mono B1.size)
   clear XB SK CN
   cases hq : (T.toList == nm.toList)
   ·have HN : Hid (kdL T (j + 1) = kdL T j) := by (show kdL T (j + 1) = _; rw [HKJ.out, hq]; rfl)
    clear HKJ
    go_wp2_with fail
    go_roundw
    case rel => exact ⟨j + 1, by omega, by go_num, by rw [HN.out], B2⟩
    case measure => simp [intOf]; omega
   ·have HN : Hid (kdL T (j + 1) = j + 1) := by (show kdL T (j + 1) = _; rw [HKJ.out, hq]; rfl)
    clear HKJ
    go_wp2_with fail
    go_roundw
    case rel => exact ⟨j + 1, by omega, by go_num, by rw [HN.out]; go_num, B2⟩
    case measure => simp [intOf]; omega
  have hli : ¬ (((j + 1 : Nat) : Int)) ≤ 14 := by omega
  obtain rfl : j = 14 := by omega
  clear hj hlt
  have hKle := kdL_le T 14
  have HKE : Hid (kdL (W.getD 0 ⟨#[]⟩) 14 = kdL T 14) := by (show kdL (W.getD 0 ⟨#[]⟩) 14 = _; rw [hTT])
  clear HKK hTT
  generalize kdL T 14 = K at *
  replace B := B.trans (B1.mono B.size)
  replace R := R.below B1
  by_cases hK0 : K = 0
  ·have hq0 : ((K : Int) == 0) = true := by simp [hK0]
   have HPQ : Hid (paS s = (zOp0, 2)) := by (show paS s = _; rw [HPS.out]; exact paW_none (by rw [HKE.out, hK0]))
   clear hK0
   have hst := Bo.store (P := Tryz.prog) (b := 0) [.int .i64 0, .int .i64 0, .int .i64 0, .int .i64 0, .int .i64 0, .string ⟨#[]⟩, .slice none 0 0] 0 0 R rfl (by simp) (opV_one zOp0 none 0)
   replace R : Bo (putA wr w.heap.size 0 [.int .i64 0, .int .i64 0, .int .i64 0, .int .i64 0, .int .i64 0, .string ⟨#[]⟩, .slice none 0 0]) w.heap.size #[.int .i64 0, .int .i64 0, .int .i64 0, .int .i64 0, .int .i64 0, .string ⟨#[]⟩, .slice none 0 0] := R.putW (U := #[.int .i64 0, .int .i64 0, .int .i64 0, .int .i64 0, .int .i64 0, .string ⟨#[]⟩, .slice none 0 0]) rfl
   replace B := putA_below (k := w.heap.size) [.int .i64 0, .int .i64 0, .int .i64 0, .int .i64 0, .int .i64 0, .string ⟨#[]⟩, .slice none 0 0] w wr 0 B (Nat.le_refl _)
   go_wp2_with (rw [hst])
   clear hst
   generalize putA wr w.heap.size 0 [.int .i64 0, .int .i64 0, .int .i64 0, .int .i64 0, .int .i64 0, .string ⟨#[]⟩, .slice none 0 0] = vz at *
   have hL := R.load (P := Tryz.prog) (n := 7) rfl
   (try simp only [Exit.inBlock, Exit.then])
   have HPA : paS s = (zOp0, 2) := HPQ.out
   exact bodyPost_ret (v := .tuple #[.agg #[.int .i64 0, .int .i64 0, .int .i64 0, .int .i64 0, .int .i64 0, .string ⟨#[]⟩, .slice none 0 0], .int .i64 2]) (by simp [results, Tryz.results12, go_sem]; rw [hL]; rfl) rfl ⟨none, 0, by rw [HPA]; rfl, by rw [HPA]; exact .inl ⟨rfl, rfl, rfl⟩, B⟩
  have hq0 : ((K : Int) == 0) = false := by simp [hK0]
  have CN := specNums_any (K : Int) 0 0 0 0 ⟨#[]⟩ none 0 0 (fun _ => 0) wr (by omega) (lsO_nil _ _)
  go_wp2_with fail
  refine CN.mono ?_
  rintro e v2 ⟨u2, rfl, O2, hb⟩
  obtain ⟨g2, cap2, rfl, _⟩ := own_cellY O2 (opN_pos _ _ _ _ _ _ _)
  rw [opN_cn (by omega) hKle]
  replace B1 := B1.trans (hb.mono B1.size)
  replace B := B.trans (hb.mono B.size)
  replace R := R.below hb
  clear O2 hb CN
  obtain ⟨i0, hi, hz0, hz1, hz2⟩ := info_parts info_int
  have hcn3 := cnK_le (K : Int)
  cases hTB : opT (K : Int)
  ·-- a kind without a text
   by_cases hK1 : K = 1
   ·have hk1 : ((K : Int) != 1) = false := by simp [hK1]
    have hk2 : ((K : Int) == 1) = true := by simp [hK1]
    have CL := fun v => l1In_any (W.length : Int) 2 10 v
    by_cases hm : 2 ≤ W.length ∧ W.length ≤ 10
    ·have hd : decide ((2 : Int) ≤ (W.length : Int) ∧ (W.length : Int) ≤ 10) = true := decide_eq_true (by omega)
     have hmk : mOk K W.length = true := by rw [mOk, if_pos hK1]; exact decide_eq_true hm
     have hc1 : cnK (K : Int) = 1 := by rw [hK1]; rfl
     rw [hd] at CL
     clear hK1 hd
     go_wp2_with fail
     refine (CL _).mono ?_
     rintro e v5 ⟨rfl, rfl⟩
     clear CL
     have O3 := own_ints v2 [] (by show (0 : Nat) ≤ 64; omega)
     have b3 := Below.nw v2 (.cells (irow []).toArray 3)
     change (v2.alloc (.cells #[] 3)).ownsRow v2.heap.size 3 1 (.slice (some ⟨v2.heap.size, 0, none⟩) 0 0) 0 (irow []) at O3
     change Below v2.heap.size v2 (v2.alloc (.cells #[] 3)) at b3
     go_wp2_with fail
     go_loopw [10, 11, 12] (fun nu tx i wr => ∃ (j : Nat) (L : List Int) (t : ByteArray), j + 1 ≤ W.length ∧ i = .int .i64 ((j + 1 : Nat) : Int) ∧ tx = .string t ∧ rdF W false j = (L, t, 0) ∧ wr.ownsRow v2.heap.size 3 1 nu L.length (irow L) ∧ Below v2.heap.size v2 wr) (fun _ _ i _ => W.length - (intOf i).toNat)
     case atStart => exact ⟨0, [], ⟨#[]⟩, by omega, rfl, rfl, rfl, O3, b3⟩
     case round =>
      clear O3 b3
      obtain ⟨j, L, t, hj, rfl, rfl, hrd, O3, B3⟩ := hrel
      have hLj := rdF_le W false j
      rw [hrd] at hLj
      have HRD : Hid (rdF W false j = (L, t, 0)) := hrd
      clear hrd
      have hLj : L.length ≤ j := hLj
      have hlo : v2.heap.size ≤ wr.heap.size := B3.size
      replace R := R.below B3
      have Rlt := R.1
      replace B := B.trans (B3.mono B.size)
      by_cases hlt : j + 1 < W.length
      ·have hli : ((j + 1 : Nat) : Int) < (W.length : Int) := by omega
       have ci := HC.out (j + 1) hlt wr (B1.trans (B3.mono B1.size))
       have hws := HWE.out (j + 1)
       have hwm : (W.getD (j + 1) ⟨#[]⟩).size ≤ maxLen := Nat.le_trans hws (Nat.le_trans hs (by decide))
       have HRN : Hid (rdF W false (j + 1) = if nuB (W.getD (j + 1) ⟨#[]⟩) = true then (L ++ [nuI (W.getD (j + 1) ⟨#[]⟩)], t, 0) else (L, t, 4)) := by
        have q := rdF_num (W := W) (tb := false) (j := j) (by rw [HRD.out]) (fun h => by cases h.1)
        rw [HRD.out] at q
        exact q
       have CX := specNumOf_any (W.getD (j + 1) ⟨#[]⟩) wr hwm
       clear hws hwm
       generalize W.getD (j + 1) ⟨#[]⟩ = x at *
       generalize nuB x = fb at *
       generalize nuI x = fo at *
       go_wp2_with fail
       refine CX.mono ?_
       rintro e v3 ⟨rfl, hb⟩
       clear CX ci
       replace R := R.below hb
       replace B := B.trans (hb.mono B.size)
       replace O3 := own_belowG O3 hb
       replace B3 := B3.trans (hb.mono B3.size)
       replace hlo := Nat.le_trans hlo hb.size
       clear hb
       cases fb
       ·have HPQ : Hid (paS s = (zOp0, 4)) := by (show paS s = _; rw [HPS.out]; exact paW_badj HKE.out hK0 hmk (by rw [hTB]; exact HRN.out) (by decide) (by omega))
        have hst := Bo.store (P := Tryz.prog) (b := 0) [.int .i64 0, .int .i64 0, .int .i64 0, .int .i64 0, .int .i64 0, .string ⟨#[]⟩, .slice none 0 0] 0 0 R rfl (by simp) (opV_one zOp0 none 0)
        replace R : Bo (putA v3 w.heap.size 0 [.int .i64 0, .int .i64 0, .int .i64 0, .int .i64 0, .int .i64 0, .string ⟨#[]⟩, .slice none 0 0]) w.heap.size #[.int .i64 0, .int .i64 0, .int .i64 0, .int .i64 0, .int .i64 0, .string ⟨#[]⟩, .slice none 0 0] := R.putW (U := #[.int .i64 0, .int .i64 0, .int .i64 0, .int .i64 0, .int .i64 0, .string ⟨#[]⟩, .slice none 0 0]) rfl
        replace B := putA_below (k := w.heap.size) [.int .i64 0, .int .i64 0, .int .i64 0, .int .i64 0, .int .i64 0, .string ⟨#[]⟩, .slice none 0 0] w v3 0 B (Nat.le_refl _)
        go_wp2_with (rw [hst])
        clear hst
        generalize putA v3 w.heap.size 0 [.int .i64 0, .int .i64 0, .int .i64 0, .int .i64 0, .int .i64 0, .string ⟨#[]⟩, .slice none 0 0] = vz at *
        have hL := R.load (P := Tryz.prog) (n := 7) rfl
        (try simp only [Exit.inBlock, Exit.then])
        have HPA : paS s = (zOp0, 4) := HPQ.out
        exact bodyPost_ret (v := .tuple #[.agg #[.int .i64 0, .int .i64 0, .int .i64 0, .int .i64 0, .int .i64 0, .string ⟨#[]⟩, .slice none 0 0], .int .i64 4]) (by simp [results, Tryz.results12, go_sem]; rw [hL]; rfl) rfl ⟨none, 0, by rw [HPA]; rfl, by rw [HPA]; exact .inl ⟨rfl, rfl, rfl⟩, B⟩
       ·have HM : ∀ (i : Nat) u, (irow [fo])[i]? = some u → (v3.alloc (.cells #[.int .i64 fo] 3)).cell? ((⟨v3.heap.size, 0, none⟩ : Addr).add i) = some u := fun i u hu => by
         rw [add_atX, Nat.zero_add]
         have e : irow [fo] = [.int .i64 fo] := rfl
         rw [e] at hu
         simpa using hu
        have b7 := Below.nw v3 (.cells #[.int .i64 fo] 3)
        replace R := R.below b7
        replace B := B.trans (b7.mono B.size)
        replace O3 := own_belowG O3 b7
        replace B3 := B3.trans (b7.mono B3.size)
        replace hlo := Nat.le_trans hlo b7.size
        clear b7
        go_wp2_with (at_builtin; refine wpList_append_own _ rfl _ _ 24 rfl v2.heap.size 3 i0 (.int .i64 0) 1 8 Tryz.underlying24 hi hz0 hz1 hz2 rfl (by decide) _ _ _ rfl O3 ⟨v3.heap.size, 0, none⟩ 1 1 (irow [fo]) rfl rfl HM (irow_on _) (by unfold maxLen; omega) (by omega) hlo ?_; intro v8 w8 O8 hg8 _)
        have Bg := grown_belowG O3 hg8 hlo
        replace B3 := B3.trans Bg
        have O9 : w8.ownsRow v2.heap.size 3 1 v8 (L ++ [fo]).length (irow (L ++ [fo])) := by
         rw [irow_app, List.length_append]
         exact O8
        clear Bg O3 O8 hg8 HM hlo R B
        go_wp2_with fail
        go_roundw
        case rel => exact ⟨j + 1, L ++ [fo], t, by omega, by go_num, rfl, HRN.out, O9, B3⟩
        case measure => simp [intOf]; omega
      have hli : ¬ ((j + 1 : Nat) : Int) < (W.length : Int) := by omega
      have hjW : j = W.length - 1 := by omega
      have hLL : L.length = j - (if false = true ∧ W.length - 1 ≤ j ∧ 0 < j ∧ 2 ≤ W.length then 1 else 0) := by
       have q := rdF_len W false j (by rw [HRD.out])
       rw [HRD.out] at q
       rcases q with q | q
       ·exact q
       ·omega
      have hcl : cnK (K : Int) ≤ L.length := by
       rw [hc1, hLL, if_neg (by intro h; cases h.1)]; omega
      have hL10 : L.length ≤ 1000 := by
       omega
      have HPO : Hid (paS s = if oB (opZ (K : Int) L t) = true then (opZ (K : Int) L t, 0) else (zOp0, 6)) := by
       show paS s = _
       rw [HPS.out]
       exact paW_op HKE.out hK0 hmk (by rw [hTB, ← hjW]; exact HRD.out)
      obtain ⟨g3, cap3, rfl, C3⟩ := own_cellY O3 (by have := cnK_pos (K : Int); omega)
      have CZ := specOpZ_any K (by omega) hKle L t g3 cap3 wr hcl hL10 (own_cap O3) C3
      have hXt : (opZ (K : Int) L t).n ≤ maxLen := Nat.le_trans (opZ_n _ _ _) (Nat.le_trans hL10 (by decide))
      have htx : (opZ (K : Int) L t).tx.size ≤ maxLen := by
       have q := rdF_tx W false HWE.out j
       rw [HRD.out] at q
       rw [opZ_tx]
       exact Nat.le_trans q (Nat.le_trans hs (by decide))
      clear HRD hLL hcl hL10 O3 C3 hjW hlt
      go_wp2_with fail
      refine CZ.mono ?_
      rintro e v5 ⟨p5, c5, rfl, HL, hb⟩
      replace R := R.below hb
      replace B := B.trans (hb.mono B.size)
      replace HL := HL.low (show w.heap.size + 1 ≤ wr.heap.size from Rlt)
      clear CZ hb
      have hAs : (opV (opZ (K : Int) L t) p5 c5).size = 7 := rfl
      have hone := opV_one (opZ (K : Int) L t) p5 c5
      generalize opZ (K : Int) L t = X at *
      have HAX : Hid (opV X p5 c5 = opV X p5 c5) := rfl
      generalize hAA : opV X p5 c5 = A at hAs hone HAX ⊢
      have HA : Hid (A = opV X p5 c5) := hAA.symm
      clear HAX hAA
      have NA := Below.nw v5 (.cells #[.int .i64 0, .int .i64 0, .int .i64 0, .int .i64 0, .int .i64 0, .string ⟨#[]⟩, .slice none 0 0] 26)
      have O := Bo.new v5 #[.int .i64 0, .int .i64 0, .int .i64 0, .int .i64 0, .int .i64 0, .string ⟨#[]⟩, .slice none 0 0] 26
      have hst : (storeCells ⟨v5.heap.size, 0, none⟩ A.toList 0).run Tryz.prog (v5.alloc (.cells #[.int .i64 0, .int .i64 0, .int .i64 0, .int .i64 0, .int .i64 0, .string ⟨#[]⟩, .slice none 0 0] 26)) = .ok () (putA (v5.alloc (.cells #[.int .i64 0, .int .i64 0, .int .i64 0, .int .i64 0, .int .i64 0, .string ⟨#[]⟩, .slice none 0 0] 26)) v5.heap.size 0 A.toList) := Bo.store (P := Tryz.prog) (b := 0) A.toList 0 0 O rfl (by simp [hAs]) hone
      have O2 := O.putW (U := A) (by rw [hAs]; rfl)
      have NB := putA_below (k := v5.heap.size) A.toList v5 _ 0 NA (Nat.le_refl _)
      replace R := R.below NB
      replace B := B.trans (NB.mono B.size)
      replace HL := HL.below NB
      clear NA NB O
      have HON : Hid (∀ u ∈ A.toList, u.oneCell' = true) := hone
      clear hone
      go_wp2_with (rw [hst])
      clear hst
      generalize putA (v5.alloc (.cells #[.int .i64 0, .int .i64 0, .int .i64 0, .int .i64 0, .int .i64 0, .string ⟨#[]⟩, .slice none 0 0] 26)) v5.heap.size 0 A.toList = v6 at *
      generalize v5.heap.size = k6 at *
      have hL2 := O2.load (P := Tryz.prog) hAs
      have COK : Calls Tryz.prog 8 #[.agg A] v6 fun e w' => e = .returned (.bool (oB X)) ∧ Below v6.heap.size v6 w' := by
       rw [HA.out]
       exact specOpOk_any X.k X.nd X.tt X.a X.b X.tx p5 X.n c5 X.f v6 htx hXt HL.ls.src
      go_wp2_with (rw [hL2])
      go_simp
      go_wp2_with fail
      refine COK.mono ?_
      rintro e v7 ⟨rfl, hb⟩
      replace R := R.below hb
      replace O2 := O2.below hb
      replace B := B.trans (hb.mono B.size)
      replace HL := HL.below hb
      clear hb COK hL2
      cases hok : oB X
      ·have HPQ : Hid (paS s = (zOp0, 6)) := by (show paS s = _; rw [HPO.out, hok]; rfl)
       clear HPO
       have hst := Bo.store (P := Tryz.prog) (b := 0) [.int .i64 0, .int .i64 0, .int .i64 0, .int .i64 0, .int .i64 0, .string ⟨#[]⟩, .slice none 0 0] 0 0 R rfl (by simp) (opV_one zOp0 none 0)
       replace R : Bo (putA v7 w.heap.size 0 [.int .i64 0, .int .i64 0, .int .i64 0, .int .i64 0, .int .i64 0, .string ⟨#[]⟩, .slice none 0 0]) w.heap.size #[.int .i64 0, .int .i64 0, .int .i64 0, .int .i64 0, .int .i64 0, .string ⟨#[]⟩, .slice none 0 0] := R.putW (U := #[.int .i64 0, .int .i64 0, .int .i64 0, .int .i64 0, .int .i64 0, .string ⟨#[]⟩, .slice none 0 0]) rfl
       replace B := putA_below (k := w.heap.size) [.int .i64 0, .int .i64 0, .int .i64 0, .int .i64 0, .int .i64 0, .string ⟨#[]⟩, .slice none 0 0] w v7 0 B (Nat.le_refl _)
       go_wp2_with (rw [hst])
       clear hst
       generalize putA v7 w.heap.size 0 [.int .i64 0, .int .i64 0, .int .i64 0, .int .i64 0, .int .i64 0, .string ⟨#[]⟩, .slice none 0 0] = vz at *
       have hL := R.load (P := Tryz.prog) (n := 7) rfl
       (try simp only [Exit.inBlock, Exit.then])
       have HPA : paS s = (zOp0, 6) := HPQ.out
       exact bodyPost_ret (v := .tuple #[.agg #[.int .i64 0, .int .i64 0, .int .i64 0, .int .i64 0, .int .i64 0, .string ⟨#[]⟩, .slice none 0 0], .int .i64 6]) (by simp [results, Tryz.results12, go_sem]; rw [hL]; rfl) rfl ⟨none, 0, by rw [HPA]; rfl, by rw [HPA]; exact .inl ⟨rfl, rfl, rfl⟩, B⟩
      ·have HPQ : Hid (paS s = (X, 0)) := by (show paS s = _; rw [HPO.out, hok]; rfl)
       clear HPO
       have hL3 := O2.load (P := Tryz.prog) hAs
       have hst := Bo.store (P := Tryz.prog) (b := 0) A.toList 0 0 R rfl (by simp [hAs]) HON.out
       replace R : Bo (putA v7 w.heap.size 0 A.toList) w.heap.size A := R.putW (U := A) (by rw [hAs]; rfl)
       replace B := putA_below (k := w.heap.size) A.toList w v7 0 B (Nat.le_refl _)
       replace HL : LsA (putA v7 w.heap.size 0 A.toList) (w.heap.size + 1) p5 X.n c5 X.f := HL.but A.toList 0 (Nat.lt_succ_self _)
       clear O2
       go_wp2_with (first | rw [hL3] | rw [hst])
       clear hL3 hst
       generalize putA v7 w.heap.size 0 A.toList = vz at *
       have hL := R.load (P := Tryz.prog) hAs
       (try simp only [Exit.inBlock, Exit.then])
       exact bodyPost_ret (v := .tuple #[.agg A, .int .i64 0]) (by simp [results, Tryz.results12, go_sem]; rw [hL]; rfl) rfl ⟨p5, c5, by rw [HPQ.out, HA.out], by rw [HPQ.out]; exact HL.low (Nat.le_succ _), B⟩
    ·have hd : decide ((2 : Int) ≤ (W.length : Int) ∧ (W.length : Int) ≤ 10) = false := decide_eq_false (by omega)
     have HPQ : Hid (paS s = (zOp0, 3)) := by (show paS s = _; rw [HPS.out]; exact paW_many HKE.out hK0 (by rw [mOk, if_pos hK1]; exact decide_eq_false hm))
     rw [hd] at CL
     clear hK1 hd hm
     go_wp2_with fail
     refine (CL _).mono ?_
     rintro e v5 ⟨rfl, rfl⟩
     clear CL
     have hst := Bo.store (P := Tryz.prog) (b := 0) [.int .i64 0, .int .i64 0, .int .i64 0, .int .i64 0, .int .i64 0, .string ⟨#[]⟩, .slice none 0 0] 0 0 R rfl (by simp) (opV_one zOp0 none 0)
     replace R : Bo (putA v2 w.heap.size 0 [.int .i64 0, .int .i64 0, .int .i64 0, .int .i64 0, .int .i64 0, .string ⟨#[]⟩, .slice none 0 0]) w.heap.size #[.int .i64 0, .int .i64 0, .int .i64 0, .int .i64 0, .int .i64 0, .string ⟨#[]⟩, .slice none 0 0] := R.putW (U := #[.int .i64 0, .int .i64 0, .int .i64 0, .int .i64 0, .int .i64 0, .string ⟨#[]⟩, .slice none 0 0]) rfl
     replace B := putA_below (k := w.heap.size) [.int .i64 0, .int .i64 0, .int .i64 0, .int .i64 0, .int .i64 0, .string ⟨#[]⟩, .slice none 0 0] w v2 0 B (Nat.le_refl _)
     go_wp2_with (rw [hst])
     clear hst
     generalize putA v2 w.heap.size 0 [.int .i64 0, .int .i64 0, .int .i64 0, .int .i64 0, .int .i64 0, .string ⟨#[]⟩, .slice none 0 0] = vz at *
     have hL := R.load (P := Tryz.prog) (n := 7) rfl
     (try simp only [Exit.inBlock, Exit.then])
     have HPA : paS s = (zOp0, 3) := HPQ.out
     exact bodyPost_ret (v := .tuple #[.agg #[.int .i64 0, .int .i64 0, .int .i64 0, .int .i64 0, .int .i64 0, .string ⟨#[]⟩, .slice none 0 0], .int .i64 3]) (by simp [results, Tryz.results12, go_sem]; rw [hL]; rfl) rfl ⟨none, 0, by rw [HPA]; rfl, by rw [HPA]; exact .inl ⟨rfl, rfl, rfl⟩, B⟩
   have hk1 : ((K : Int) != 1) = true := by simp; omega
   have hk2 : ((K : Int) == 1) = false := by simp; omega
   by_cases hm : W.length = cnK (K : Int) + 1
   ·have hq : ((W.length : Int) != (cnK (K : Int) : Int) + 1) = false := by simp; omega
    have hmk : mOk K W.length = true := by rw [mOk, if_neg hK1, hTB]; exact decide_eq_true (by simpa using hm)
    have Hm : Hid (W.length = cnK (K : Int) + 1) := hm
    clear hm
    have O3 := own_ints v2 [] (by show (0 : Nat) ≤ 64; omega)
    have b3 := Below.nw v2 (.cells (irow []).toArray 3)
    change (v2.alloc (.cells #[] 3)).ownsRow v2.heap.size 3 1 (.slice (some ⟨v2.heap.size, 0, none⟩) 0 0) 0 (irow []) at O3
    change Below v2.heap.size v2 (v2.alloc (.cells #[] 3)) at b3
    go_wp2_with fail
    go_loopw [10, 11, 12] (fun nu tx i wr => ∃ (j : Nat) (L : List Int) (t : ByteArray), j + 1 ≤ W.length ∧ i = .int .i64 ((j + 1 : Nat) : Int) ∧ tx = .string t ∧ rdF W false j = (L, t, 0) ∧ wr.ownsRow v2.heap.size 3 1 nu L.length (irow L) ∧ Below v2.heap.size v2 wr) (fun _ _ i _ => W.length - (intOf i).toNat)
    case atStart => exact ⟨0, [], ⟨#[]⟩, by omega, rfl, rfl, rfl, O3, b3⟩
    case round =>
     clear O3 b3
     obtain ⟨j, L, t, hj, rfl, rfl, hrd, O3, B3⟩ := hrel
     have hLj := rdF_le W false j
     rw [hrd] at hLj
     have HRD : Hid (rdF W false j = (L, t, 0)) := hrd
     clear hrd
     have hLj : L.length ≤ j := hLj
     have hlo : v2.heap.size ≤ wr.heap.size := B3.size
     replace R := R.below B3
     have Rlt := R.1
     replace B := B.trans (B3.mono B.size)
     by_cases hlt : j + 1 < W.length
     ·have hli : ((j + 1 : Nat) : Int) < (W.length : Int) := by omega
      have ci := HC.out (j + 1) hlt wr (B1.trans (B3.mono B1.size))
      have hws := HWE.out (j + 1)
      have hwm : (W.getD (j + 1) ⟨#[]⟩).size ≤ maxLen := Nat.le_trans hws (Nat.le_trans hs (by decide))
      have HRN : Hid (rdF W false (j + 1) = if nuB (W.getD (j + 1) ⟨#[]⟩) = true then (L ++ [nuI (W.getD (j + 1) ⟨#[]⟩)], t, 0) else (L, t, 4)) := by
       have q := rdF_num (W := W) (tb := false) (j := j) (by rw [HRD.out]) (fun h => by cases h.1)
       rw [HRD.out] at q
       exact q
      have CX := specNumOf_any (W.getD (j + 1) ⟨#[]⟩) wr hwm
      clear hws hwm
      generalize W.getD (j + 1) ⟨#[]⟩ = x at *
      generalize nuB x = fb at *
      generalize nuI x = fo at *
      go_wp2_with fail
      refine CX.mono ?_
      rintro e v3 ⟨rfl, hb⟩
      clear CX ci
      replace R := R.below hb
      replace B := B.trans (hb.mono B.size)
      replace O3 := own_belowG O3 hb
      replace B3 := B3.trans (hb.mono B3.size)
      replace hlo := Nat.le_trans hlo hb.size
      clear hb
      cases fb
      ·have HPQ : Hid (paS s = (zOp0, 4)) := by (show paS s = _; rw [HPS.out]; exact paW_badj HKE.out hK0 hmk (by rw [hTB]; exact HRN.out) (by decide) (by omega))
       have hst := Bo.store (P := Tryz.prog) (b := 0) [.int .i64 0, .int .i64 0, .int .i64 0, .int .i64 0, .int .i64 0, .string ⟨#[]⟩, .slice none 0 0] 0 0 R rfl (by simp) (opV_one zOp0 none 0)
       replace R : Bo (putA v3 w.heap.size 0 [.int .i64 0, .int .i64 0, .int .i64 0, .int .i64 0, .int .i64 0, .string ⟨#[]⟩, .slice none 0 0]) w.heap.size #[.int .i64 0, .int .i64 0, .int .i64 0, .int .i64 0, .int .i64 0, .string ⟨#[]⟩, .slice none 0 0] := R.putW (U := #[.int .i64 0, .int .i64 0, .int .i64 0, .int .i64 0, .int .i64 0, .string ⟨#[]⟩, .slice none 0 0]) rfl
       replace B := putA_below (k := w.heap.size) [.int .i64 0, .int .i64 0, .int .i64 0, .int .i64 0, .int .i64 0, .string ⟨#[]⟩, .slice none 0 0] w v3 0 B (Nat.le_refl _)
       go_wp2_with (rw [hst])
       clear hst
       generalize putA v3 w.heap.size 0 [.int .i64 0, .int .i64 0, .int .i64 0, .int .i64 0, .int .i64 0, .string ⟨#[]⟩, .slice none 0 0] = vz at *
       have hL := R.load (P := Tryz.prog) (n := 7) rfl
       (try simp only [Exit.inBlock, Exit.then])
       have HPA : paS s = (zOp0, 4) := HPQ.out
       exact bodyPost_ret (v := .tuple #[.agg #[.int .i64 0, .int .i64 0, .int .i64 0, .int .i64 0, .int .i64 0, .string ⟨#[]⟩, .slice none 0 0], .int .i64 4]) (by simp [results, Tryz.results12, go_sem]; rw [hL]; rfl) rfl ⟨none, 0, by rw [HPA]; rfl, by rw [HPA]; exact .inl ⟨rfl, rfl, rfl⟩, B⟩
      ·have HM : ∀ (i : Nat) u, (irow [fo])[i]? = some u → (v3.alloc (.cells #[.int .i64 fo] 3)).cell? ((⟨v3.heap.size, 0, none⟩ : Addr).add i) = some u := fun i u hu => by
        rw [add_atX, Nat.zero_add]
        have e : irow [fo] = [.int .i64 fo] := rfl
        rw [e] at hu
        simpa using hu
       have b7 := Below.nw v3 (.cells #[.int .i64 fo] 3)
       replace R := R.below b7
       replace B := B.trans (b7.mono B.size)
       replace O3 := own_belowG O3 b7
       replace B3 := B3.trans (b7.mono B3.size)
       replace hlo := Nat.le_trans hlo b7.size
       clear b7
       go_wp2_with (at_builtin; refine wpList_append_own _ rfl _ _ 24 rfl v2.heap.size 3 i0 (.int .i64 0) 1 8 Tryz.underlying24 hi hz0 hz1 hz2 rfl (by decide) _ _ _ rfl O3 ⟨v3.heap.size, 0, none⟩ 1 1 (irow [fo]) rfl rfl HM (irow_on _) (by unfold maxLen; omega) (by omega) hlo ?_; intro v8 w8 O8 hg8 _)
       have Bg := grown_belowG O3 hg8 hlo
       replace B3 := B3.trans Bg
       have O9 : w8.ownsRow v2.heap.size 3 1 v8 (L ++ [fo]).length (irow (L ++ [fo])) := by
        rw [irow_app, List.length_append]
        exact O8
       clear Bg O3 O8 hg8 HM hlo R B
       go_wp2_with fail
       go_roundw
       case rel => exact ⟨j + 1, L ++ [fo], t, by omega, by go_num, rfl, HRN.out, O9, B3⟩
       case measure => simp [intOf]; omega
     have hli : ¬ ((j + 1 : Nat) : Int) < (W.length : Int) := by omega
     have hjW : j = W.length - 1 := by omega
     have hLL : L.length = j - (if false = true ∧ W.length - 1 ≤ j ∧ 0 < j ∧ 2 ≤ W.length then 1 else 0) := by
      have q := rdF_len W false j (by rw [HRD.out])
      rw [HRD.out] at q
      rcases q with q | q
      ·exact q
      ·omega
     have hcl : cnK (K : Int) ≤ L.length := by
      have hm := Hm.out; rw [hLL]; rw [if_neg (by intro h; cases h.1)]; omega
     have hL10 : L.length ≤ 1000 := by
      have hm := Hm.out; omega
     have HPO : Hid (paS s = if oB (opZ (K : Int) L t) = true then (opZ (K : Int) L t, 0) else (zOp0, 6)) := by
      show paS s = _
      rw [HPS.out]
      exact paW_op HKE.out hK0 hmk (by rw [hTB, ← hjW]; exact HRD.out)
     obtain ⟨g3, cap3, rfl, C3⟩ := own_cellY O3 (by have := cnK_pos (K : Int); omega)
     have CZ := specOpZ_any K (by omega) hKle L t g3 cap3 wr hcl hL10 (own_cap O3) C3
     have hXt : (opZ (K : Int) L t).n ≤ maxLen := Nat.le_trans (opZ_n _ _ _) (Nat.le_trans hL10 (by decide))
     have htx : (opZ (K : Int) L t).tx.size ≤ maxLen := by
      have q := rdF_tx W false HWE.out j
      rw [HRD.out] at q
      rw [opZ_tx]
      exact Nat.le_trans q (Nat.le_trans hs (by decide))
     clear HRD hLL hcl hL10 O3 C3 hjW hlt
     go_wp2_with fail
     refine CZ.mono ?_
     rintro e v5 ⟨p5, c5, rfl, HL, hb⟩
     replace R := R.below hb
     replace B := B.trans (hb.mono B.size)
     replace HL := HL.low (show w.heap.size + 1 ≤ wr.heap.size from Rlt)
     clear CZ hb
     have hAs : (opV (opZ (K : Int) L t) p5 c5).size = 7 := rfl
     have hone := opV_one (opZ (K : Int) L t) p5 c5
     generalize opZ (K : Int) L t = X at *
     have HAX : Hid (opV X p5 c5 = opV X p5 c5) := rfl
     generalize hAA : opV X p5 c5 = A at hAs hone HAX ⊢
     have HA : Hid (A = opV X p5 c5) := hAA.symm
     clear HAX hAA
     have NA := Below.nw v5 (.cells #[.int .i64 0, .int .i64 0, .int .i64 0, .int .i64 0, .int .i64 0, .string ⟨#[]⟩, .slice none 0 0] 26)
     have O := Bo.new v5 #[.int .i64 0, .int .i64 0, .int .i64 0, .int .i64 0, .int .i64 0, .string ⟨#[]⟩, .slice none 0 0] 26
     have hst : (storeCells ⟨v5.heap.size, 0, none⟩ A.toList 0).run Tryz.prog (v5.alloc (.cells #[.int .i64 0, .int .i64 0, .int .i64 0, .int .i64 0, .int .i64 0, .string ⟨#[]⟩, .slice none 0 0] 26)) = .ok () (putA (v5.alloc (.cells #[.int .i64 0, .int .i64 0, .int .i64 0, .int .i64 0, .int .i64 0, .string ⟨#[]⟩, .slice none 0 0] 26)) v5.heap.size 0 A.toList) := Bo.store (P := Tryz.prog) (b := 0) A.toList 0 0 O rfl (by simp [hAs]) hone
     have O2 := O.putW (U := A) (by rw [hAs]; rfl)
     have NB := putA_below (k := v5.heap.size) A.toList v5 _ 0 NA (Nat.le_refl _)
     replace R := R.below NB
     replace B := B.trans (NB.mono B.size)
     replace HL := HL.below NB
     clear NA NB O
     have HON : Hid (∀ u ∈ A.toList, u.oneCell' = true) := hone
     clear hone
     go_wp2_with (rw [hst])
     clear hst
     generalize putA (v5.alloc (.cells #[.int .i64 0, .int .i64 0, .int .i64 0, .int .i64 0, .int .i64 0, .string ⟨#[]⟩, .slice none 0 0] 26)) v5.heap.size 0 A.toList = v6 at *
     generalize v5.heap.size = k6 at *
     have hL2 := O2.load (P := Tryz.prog) hAs
     have COK : Calls Tryz.prog 8 #[.agg A] v6 fun e w' => e = .returned (.bool (oB X)) ∧ Below v6.heap.size v6 w' := by
      rw [HA.out]
      exact specOpOk_any X.k X.nd X.tt X.a X.b X.tx p5 X.n c5 X.f v6 htx hXt HL.ls.src
     go_wp2_with (rw [hL2])
     go_simp
     go_wp2_with fail
     refine COK.mono ?_
     rintro e v7 ⟨rfl, hb⟩
     replace R := R.below hb
     replace O2 := O2.below hb
     replace B := B.trans (hb.mono B.size)
     replace HL := HL.below hb
     clear hb COK hL2
     cases hok : oB X
     ·have HPQ : Hid (paS s = (zOp0, 6)) := by (show paS s = _; rw [HPO.out, hok]; rfl)
      clear HPO
      have hst := Bo.store (P := Tryz.prog) (b := 0) [.int .i64 0, .int .i64 0, .int .i64 0, .int .i64 0, .int .i64 0, .string ⟨#[]⟩, .slice none 0 0] 0 0 R rfl (by simp) (opV_one zOp0 none 0)
      replace R : Bo (putA v7 w.heap.size 0 [.int .i64 0, .int .i64 0, .int .i64 0, .int .i64 0, .int .i64 0, .string ⟨#[]⟩, .slice none 0 0]) w.heap.size #[.int .i64 0, .int .i64 0, .int .i64 0, .int .i64 0, .int .i64 0, .string ⟨#[]⟩, .slice none 0 0] := R.putW (U := #[.int .i64 0, .int .i64 0, .int .i64 0, .int .i64 0, .int .i64 0, .string ⟨#[]⟩, .slice none 0 0]) rfl
      replace B := putA_below (k := w.heap.size) [.int .i64 0, .int .i64 0, .int .i64 0, .int .i64 0, .int .i64 0, .string ⟨#[]⟩, .slice none 0 0] w v7 0 B (Nat.le_refl _)
      go_wp2_with (rw [hst])
      clear hst
      generalize putA v7 w.heap.size 0 [.int .i64 0, .int .i64 0, .int .i64 0, .int .i64 0, .int .i64 0, .string ⟨#[]⟩, .slice none 0 0] = vz at *
      have hL := R.load (P := Tryz.prog) (n := 7) rfl
      (try simp only [Exit.inBlock, Exit.then])
      have HPA : paS s = (zOp0, 6) := HPQ.out
      exact bodyPost_ret (v := .tuple #[.agg #[.int .i64 0, .int .i64 0, .int .i64 0, .int .i64 0, .int .i64 0, .string ⟨#[]⟩, .slice none 0 0], .int .i64 6]) (by simp [results, Tryz.results12, go_sem]; rw [hL]; rfl) rfl ⟨none, 0, by rw [HPA]; rfl, by rw [HPA]; exact .inl ⟨rfl, rfl, rfl⟩, B⟩
     ·have HPQ : Hid (paS s = (X, 0)) := by (show paS s = _; rw [HPO.out, hok]; rfl)
      clear HPO
      have hL3 := O2.load (P := Tryz.prog) hAs
      have hst := Bo.store (P := Tryz.prog) (b := 0) A.toList 0 0 R rfl (by simp [hAs]) HON.out
      replace R : Bo (putA v7 w.heap.size 0 A.toList) w.heap.size A := R.putW (U := A) (by rw [hAs]; rfl)
      replace B := putA_below (k := w.heap.size) A.toList w v7 0 B (Nat.le_refl _)
      replace HL : LsA (putA v7 w.heap.size 0 A.toList) (w.heap.size + 1) p5 X.n c5 X.f := HL.but A.toList 0 (Nat.lt_succ_self _)
      clear O2
      go_wp2_with (first | rw [hL3] | rw [hst])
      clear hL3 hst
      generalize putA v7 w.heap.size 0 A.toList = vz at *
      have hL := R.load (P := Tryz.prog) hAs
      (try simp only [Exit.inBlock, Exit.then])
      exact bodyPost_ret (v := .tuple #[.agg A, .int .i64 0]) (by simp [results, Tryz.results12, go_sem]; rw [hL]; rfl) rfl ⟨p5, c5, by rw [HPQ.out, HA.out], by rw [HPQ.out]; exact HL.low (Nat.le_succ _), B⟩
   ·have hq : ((W.length : Int) != (cnK (K : Int) : Int) + 1) = true := by simp; omega
    have HPQ : Hid (paS s = (zOp0, 3)) := by (show paS s = _; rw [HPS.out]; exact paW_many HKE.out hK0 (by rw [mOk, if_neg hK1, hTB]; exact decide_eq_false (by simpa using hm)))
    clear hm
    have hst := Bo.store (P := Tryz.prog) (b := 0) [.int .i64 0, .int .i64 0, .int .i64 0, .int .i64 0, .int .i64 0, .string ⟨#[]⟩, .slice none 0 0] 0 0 R rfl (by simp) (opV_one zOp0 none 0)
    replace R : Bo (putA v2 w.heap.size 0 [.int .i64 0, .int .i64 0, .int .i64 0, .int .i64 0, .int .i64 0, .string ⟨#[]⟩, .slice none 0 0]) w.heap.size #[.int .i64 0, .int .i64 0, .int .i64 0, .int .i64 0, .int .i64 0, .string ⟨#[]⟩, .slice none 0 0] := R.putW (U := #[.int .i64 0, .int .i64 0, .int .i64 0, .int .i64 0, .int .i64 0, .string ⟨#[]⟩, .slice none 0 0]) rfl
    replace B := putA_below (k := w.heap.size) [.int .i64 0, .int .i64 0, .int .i64 0, .int .i64 0, .int .i64 0, .string ⟨#[]⟩, .slice none 0 0] w v2 0 B (Nat.le_refl _)
    go_wp2_with (rw [hst])
    clear hst
    generalize putA v2 w.heap.size 0 [.int .i64 0, .int .i64 0, .int .i64 0, .int .i64 0, .int .i64 0, .string ⟨#[]⟩, .slice none 0 0] = vz at *
    have hL := R.load (P := Tryz.prog) (n := 7) rfl
    (try simp only [Exit.inBlock, Exit.then])
    have HPA : paS s = (zOp0, 3) := HPQ.out
    exact bodyPost_ret (v := .tuple #[.agg #[.int .i64 0, .int .i64 0, .int .i64 0, .int .i64 0, .int .i64 0, .string ⟨#[]⟩, .slice none 0 0], .int .i64 3]) (by simp [results, Tryz.results12, go_sem]; rw [hL]; rfl) rfl ⟨none, 0, by rw [HPA]; rfl, by rw [HPA]; exact .inl ⟨rfl, rfl, rfl⟩, B⟩
  ·-- a kind with a text
   have hK1 : ¬ K = 1 := fun h => by rw [h] at hTB; cases hTB
   have hk1 : ((K : Int) != 1) = true := by simp; omega
   have hk2 : ((K : Int) == 1) = false := by simp; omega
   by_cases hm : W.length = cnK (K : Int) + 1 + 1
   ·have hq : ((W.length : Int) != (cnK (K : Int) : Int) + 1 + 1) = false := by simp; omega
    have hmk : mOk K W.length = true := by rw [mOk, if_neg hK1, hTB]; exact decide_eq_true (by simpa using hm)
    have Hm : Hid (W.length = cnK (K : Int) + 1 + 1) := hm
    clear hm
    have O3 := own_ints v2 [] (by show (0 : Nat) ≤ 64; omega)
    have b3 := Below.nw v2 (.cells (irow []).toArray 3)
    change (v2.alloc (.cells #[] 3)).ownsRow v2.heap.size 3 1 (.slice (some ⟨v2.heap.size, 0, none⟩) 0 0) 0 (irow []) at O3
    change Below v2.heap.size v2 (v2.alloc (.cells #[] 3)) at b3
    go_wp2_with fail
    go_loopw [10, 11, 12] (fun nu tx i wr => ∃ (j : Nat) (L : List Int) (t : ByteArray), j + 1 ≤ W.length ∧ i = .int .i64 ((j + 1 : Nat) : Int) ∧ tx = .string t ∧ rdF W true j = (L, t, 0) ∧ wr.ownsRow v2.heap.size 3 1 nu L.length (irow L) ∧ Below v2.heap.size v2 wr) (fun _ _ i _ => W.length - (intOf i).toNat)
    case atStart => exact ⟨0, [], ⟨#[]⟩, by omega, rfl, rfl, rfl, O3, b3⟩
    case round =>
     clear O3 b3
     obtain ⟨j, L, t, hj, rfl, rfl, hrd, O3, B3⟩ := hrel
     have hLj := rdF_le W true j
     rw [hrd] at hLj
     have HRD : Hid (rdF W true j = (L, t, 0)) := hrd
     clear hrd
     have hLj : L.length ≤ j := hLj
     have hlo : v2.heap.size ≤ wr.heap.size := B3.size
     replace R := R.below B3
     have Rlt := R.1
     replace B := B.trans (B3.mono B.size)
     by_cases hlt : j + 1 < W.length
     ·have hli : ((j + 1 : Nat) : Int) < (W.length : Int) := by omega
      have ci := HC.out (j + 1) hlt wr (B1.trans (B3.mono B1.size))
      have hws := HWE.out (j + 1)
      have hwm : (W.getD (j + 1) ⟨#[]⟩).size ≤ maxLen := Nat.le_trans hws (Nat.le_trans hs (by decide))
      by_cases hla : j + 1 = W.length - 1
      ·have hql : (((j + 1 : Nat) : Int) == (W.length : Int) - 1) = true := by simp; omega
       have HRN : Hid (rdF W true (j + 1) = if fhB (W.getD (j + 1) ⟨#[]⟩) = true then (L, fhO (W.getD (j + 1) ⟨#[]⟩), 0) else (L, t, 5)) := by
        have q := rdF_text (W := W) (j := j) (by rw [HRD.out]) hla
        rw [HRD.out] at q
        exact q
       have CX := specFromHex_any (W.getD (j + 1) ⟨#[]⟩) wr hwm
       clear hws hwm hla
       generalize W.getD (j + 1) ⟨#[]⟩ = x at *
       generalize fhB x = fb at *
       generalize fhO x = fo at *
       go_wp2_with fail
       refine CX.mono ?_
       rintro e v3 ⟨rfl, hb⟩
       clear CX ci
       replace R := R.below hb
       replace B := B.trans (hb.mono B.size)
       replace O3 := own_belowG O3 hb
       replace B3 := B3.trans (hb.mono B3.size)
       clear hb
       cases fb
       ·have HPQ : Hid (paS s = (zOp0, 5)) := by (show paS s = _; rw [HPS.out]; exact paW_badj HKE.out hK0 hmk (by rw [hTB]; exact HRN.out) (by decide) (by omega))
        have hst := Bo.store (P := Tryz.prog) (b := 0) [.int .i64 0, .int .i64 0, .int .i64 0, .int .i64 0, .int .i64 0, .string ⟨#[]⟩, .slice none 0 0] 0 0 R rfl (by simp) (opV_one zOp0 none 0)
        replace R : Bo (putA v3 w.heap.size 0 [.int .i64 0, .int .i64 0, .int .i64 0, .int .i64 0, .int .i64 0, .string ⟨#[]⟩, .slice none 0 0]) w.heap.size #[.int .i64 0, .int .i64 0, .int .i64 0, .int .i64 0, .int .i64 0, .string ⟨#[]⟩, .slice none 0 0] := R.putW (U := #[.int .i64 0, .int .i64 0, .int .i64 0, .int .i64 0, .int .i64 0, .string ⟨#[]⟩, .slice none 0 0]) rfl
        replace B := putA_below (k := w.heap.size) [.int .i64 0, .int .i64 0, .int .i64 0, .int .i64 0, .int .i64 0, .string ⟨#[]⟩, .slice none 0 0] w v3 0 B (Nat.le_refl _)
        go_wp2_with (rw [hst])
        clear hst
        generalize putA v3 w.heap.size 0 [.int .i64 0, .int .i64 0, .int .i64 0, .int .i64 0, .int .i64 0, .string ⟨#[]⟩, .slice none 0 0] = vz at *
        have hL := R.load (P := Tryz.prog) (n := 7) rfl
        (try simp only [Exit.inBlock, Exit.then])
        have HPA : paS s = (zOp0, 5) := HPQ.out
        exact bodyPost_ret (v := .tuple #[.agg #[.int .i64 0, .int .i64 0, .int .i64 0, .int .i64 0, .int .i64 0, .string ⟨#[]⟩, .slice none 0 0], .int .i64 5]) (by simp [results, Tryz.results12, go_sem]; rw [hL]; rfl) rfl ⟨none, 0, by rw [HPA]; rfl, by rw [HPA]; exact .inl ⟨rfl, rfl, rfl⟩, B⟩
       ·go_wp2_with fail
        go_roundw
        case rel => exact ⟨j + 1, L, fo, by omega, by go_num, rfl, HRN.out, O3, B3⟩
        case measure => simp [intOf]; omega
      have hql : (((j + 1 : Nat) : Int) == (W.length : Int) - 1) = false := by simp; omega
      have HRN : Hid (rdF W true (j + 1) = if nuB (W.getD (j + 1) ⟨#[]⟩) = true then (L ++ [nuI (W.getD (j + 1) ⟨#[]⟩)], t, 0) else (L, t, 4)) := by
       have q := rdF_num (W := W) (tb := true) (j := j) (by rw [HRD.out]) (fun h => hla h.2)
       rw [HRD.out] at q
       exact q
      have CX := specNumOf_any (W.getD (j + 1) ⟨#[]⟩) wr hwm
      clear hws hwm
      generalize W.getD (j + 1) ⟨#[]⟩ = x at *
      generalize nuB x = fb at *
      generalize nuI x = fo at *
      go_wp2_with fail
      refine CX.mono ?_
      rintro e v3 ⟨rfl, hb⟩
      clear CX ci
      replace R := R.below hb
      replace B := B.trans (hb.mono B.size)
      replace O3 := own_belowG O3 hb
      replace B3 := B3.trans (hb.mono B3.size)
      replace hlo := Nat.le_trans hlo hb.size
      clear hb
      cases fb
      ·have HPQ : Hid (paS s = (zOp0, 4)) := by (show paS s = _; rw [HPS.out]; exact paW_badj HKE.out hK0 hmk (by rw [hTB]; exact HRN.out) (by decide) (by omega))
       have hst := Bo.store (P := Tryz.prog) (b := 0) [.int .i64 0, .int .i64 0, .int .i64 0, .int .i64 0, .int .i64 0, .string ⟨#[]⟩, .slice none 0 0] 0 0 R rfl (by simp) (opV_one zOp0 none 0)
       replace R : Bo (putA v3 w.heap.size 0 [.int .i64 0, .int .i64 0, .int .i64 0, .int .i64 0, .int .i64 0, .string ⟨#[]⟩, .slice none 0 0]) w.heap.size #[.int .i64 0, .int .i64 0, .int .i64 0, .int .i64 0, .int .i64 0, .string ⟨#[]⟩, .slice none 0 0] := R.putW (U := #[.int .i64 0, .int .i64 0, .int .i64 0, .int .i64 0, .int .i64 0, .string ⟨#[]⟩, .slice none 0 0]) rfl
       replace B := putA_below (k := w.heap.size) [.int .i64 0, .int .i64 0, .int .i64 0, .int .i64 0, .int .i64 0, .string ⟨#[]⟩, .slice none 0 0] w v3 0 B (Nat.le_refl _)
       go_wp2_with (rw [hst])
       clear hst
       generalize putA v3 w.heap.size 0 [.int .i64 0, .int .i64 0, .int .i64 0, .int .i64 0, .int .i64 0, .string ⟨#[]⟩, .slice none 0 0] = vz at *
       have hL := R.load (P := Tryz.prog) (n := 7) rfl
       (try simp only [Exit.inBlock, Exit.then])
       have HPA : paS s = (zOp0, 4) := HPQ.out
       exact bodyPost_ret (v := .tuple #[.agg #[.int .i64 0, .int .i64 0, .int .i64 0, .int .i64 0, .int .i64 0, .string ⟨#[]⟩, .slice none 0 0], .int .i64 4]) (by simp [results, Tryz.results12, go_sem]; rw [hL]; rfl) rfl ⟨none, 0, by rw [HPA]; rfl, by rw [HPA]; exact .inl ⟨rfl, rfl, rfl⟩, B⟩
      ·have HM : ∀ (i : Nat) u, (irow [fo])[i]? = some u → (v3.alloc (.cells #[.int .i64 fo] 3)).cell? ((⟨v3.heap.size, 0, none⟩ : Addr).add i) = some u := fun i u hu => by
        rw [add_atX, Nat.zero_add]
        have e : irow [fo] = [.int .i64 fo] := rfl
        rw [e] at hu
        simpa using hu
       have b7 := Below.nw v3 (.cells #[.int .i64 fo] 3)
       replace R := R.below b7
       replace B := B.trans (b7.mono B.size)
       replace O3 := own_belowG O3 b7
       replace B3 := B3.trans (b7.mono B3.size)
       replace hlo := Nat.le_trans hlo b7.size
       clear b7
       go_wp2_with (at_builtin; refine wpList_append_own _ rfl _ _ 24 rfl v2.heap.size 3 i0 (.int .i64 0) 1 8 Tryz.underlying24 hi hz0 hz1 hz2 rfl (by decide) _ _ _ rfl O3 ⟨v3.heap.size, 0, none⟩ 1 1 (irow [fo]) rfl rfl HM (irow_on _) (by unfold maxLen; omega) (by omega) hlo ?_; intro v8 w8 O8 hg8 _)
       have Bg := grown_belowG O3 hg8 hlo
       replace B3 := B3.trans Bg
       have O9 : w8.ownsRow v2.heap.size 3 1 v8 (L ++ [fo]).length (irow (L ++ [fo])) := by
        rw [irow_app, List.length_append]
        exact O8
       clear Bg O3 O8 hg8 HM hlo R B
       go_wp2_with fail
       go_roundw
       case rel => exact ⟨j + 1, L ++ [fo], t, by omega, by go_num, rfl, HRN.out, O9, B3⟩
       case measure => simp [intOf]; omega
     have hli : ¬ ((j + 1 : Nat) : Int) < (W.length : Int) := by omega
     have hjW : j = W.length - 1 := by omega
     have hLL : L.length = j - (if true = true ∧ W.length - 1 ≤ j ∧ 0 < j ∧ 2 ≤ W.length then 1 else 0) := by
      have q := rdF_len W true j (by rw [HRD.out])
      rw [HRD.out] at q
      rcases q with q | q
      ·exact q
      ·omega
     have hcl : cnK (K : Int) ≤ L.length := by
      have hm := Hm.out; rw [hLL]; split <;> omega
     have hL10 : L.length ≤ 1000 := by
      have hm := Hm.out; omega
     have HPO : Hid (paS s = if oB (opZ (K : Int) L t) = true then (opZ (K : Int) L t, 0) else (zOp0, 6)) := by
      show paS s = _
      rw [HPS.out]
      exact paW_op HKE.out hK0 hmk (by rw [hTB, ← hjW]; exact HRD.out)
     obtain ⟨g3, cap3, rfl, C3⟩ := own_cellY O3 (by have := cnK_pos (K : Int); omega)
     have CZ := specOpZ_any K (by omega) hKle L t g3 cap3 wr hcl hL10 (own_cap O3) C3
     have hXt : (opZ (K : Int) L t).n ≤ maxLen := Nat.le_trans (opZ_n _ _ _) (Nat.le_trans hL10 (by decide))
     have htx : (opZ (K : Int) L t).tx.size ≤ maxLen := by
      have q := rdF_tx W true HWE.out j
      rw [HRD.out] at q
      rw [opZ_tx]
      exact Nat.le_trans q (Nat.le_trans hs (by decide))
     clear HRD hLL hcl hL10 O3 C3 hjW hlt
     go_wp2_with fail
     refine CZ.mono ?_
     rintro e v5 ⟨p5, c5, rfl, HL, hb⟩
     replace R := R.below hb
     replace B := B.trans (hb.mono B.size)
     replace HL := HL.low (show w.heap.size + 1 ≤ wr.heap.size from Rlt)
     clear CZ hb
     have hAs : (opV (opZ (K : Int) L t) p5 c5).size = 7 := rfl
     have hone := opV_one (opZ (K : Int) L t) p5 c5
     generalize opZ (K : Int) L t = X at *
     have HAX : Hid (opV X p5 c5 = opV X p5 c5) := rfl
     generalize hAA : opV X p5 c5 = A at hAs hone HAX ⊢
     have HA : Hid (A = opV X p5 c5) := hAA.symm
     clear HAX hAA
     have NA := Below.nw v5 (.cells #[.int .i64 0, .int .i64 0, .int .i64 0, .int .i64 0, .int .i64 0, .string ⟨#[]⟩, .slice none 0 0] 26)
     have O := Bo.new v5 #[.int .i64 0, .int .i64 0, .int .i64 0, .int .i64 0, .int .i64 0, .string ⟨#[]⟩, .slice none 0 0] 26
     have hst : (storeCells ⟨v5.heap.size, 0, none⟩ A.toList 0).run Tryz.prog (v5.alloc (.cells #[.int .i64 0, .int .i64 0, .int .i64 0, .int .i64 0, .int .i64 0, .string ⟨#[]⟩, .slice none 0 0] 26)) = .ok () (putA (v5.alloc (.cells #[.int .i64 0, .int .i64 0, .int .i64 0, .int .i64 0, .int .i64 0, .string ⟨#[]⟩, .slice none 0 0] 26)) v5.heap.size 0 A.toList) := Bo.store (P := Tryz.prog) (b := 0) A.toList 0 0 O rfl (by simp [hAs]) hone
     have O2 := O.putW (U := A) (by rw [hAs]; rfl)
     have NB := putA_below (k := v5.heap.size) A.toList v5 _ 0 NA (Nat.le_refl _)
     replace R := R.below NB
     replace B := B.trans (NB.mono B.size)
     replace HL := HL.below NB
     clear NA NB O
     have HON : Hid (∀ u ∈ A.toList, u.oneCell' = true) := hone
     clear hone
     go_wp2_with (rw [hst])
     clear hst
     generalize putA (v5.alloc (.cells #[.int .i64 0, .int .i64 0, .int .i64 0, .int .i64 0, .int .i64 0, .string ⟨#[]⟩, .slice none 0 0] 26)) v5.heap.size 0 A.toList = v6 at *
     generalize v5.heap.size = k6 at *
     have hL2 := O2.load (P := Tryz.prog) hAs
     have COK : Calls Tryz.prog 8 #[.agg A] v6 fun e w' => e = .returned (.bool (oB X)) ∧ Below v6.heap.size v6 w' := by
      rw [HA.out]
      exact specOpOk_any X.k X.nd X.tt X.a X.b X.tx p5 X.n c5 X.f v6 htx hXt HL.ls.src
     go_wp2_with (rw [hL2])
     go_simp
     go_wp2_with fail
     refine COK.mono ?_
     rintro e v7 ⟨rfl, hb⟩
     replace R := R.below hb
     replace O2 := O2.below hb
     replace B := B.trans (hb.mono B.size)
     replace HL := HL.below hb
     clear hb COK hL2
     cases hok : oB X
     ·have HPQ : Hid (paS s = (zOp0, 6)) := by (show paS s = _; rw [HPO.out, hok]; rfl)
      clear HPO
      have hst := Bo.store (P := Tryz.prog) (b := 0) [.int .i64 0, .int .i64 0, .int .i64 0, .int .i64 0, .int .i64 0, .string ⟨#[]⟩, .slice none 0 0] 0 0 R rfl (by simp) (opV_one zOp0 none 0)
      replace R : Bo (putA v7 w.heap.size 0 [.int .i64 0, .int .i64 0, .int .i64 0, .int .i64 0, .int .i64 0, .string ⟨#[]⟩, .slice none 0 0]) w.heap.size #[.int .i64 0, .int .i64 0, .int .i64 0, .int .i64 0, .int .i64 0, .string ⟨#[]⟩, .slice none 0 0] := R.putW (U := #[.int .i64 0, .int .i64 0, .int .i64 0, .int .i64 0, .int .i64 0, .string ⟨#[]⟩, .slice none 0 0]) rfl
      replace B := putA_below (k := w.heap.size) [.int .i64 0, .int .i64 0, .int .i64 0, .int .i64 0, .int .i64 0, .string ⟨#[]⟩, .slice none 0 0] w v7 0 B (Nat.le_refl _)
      go_wp2_with (rw [hst])
      clear hst
      generalize putA v7 w.heap.size 0 [.int .i64 0, .int .i64 0, .int .i64 0, .int .i64 0, .int .i64 0, .string ⟨#[]⟩, .slice none 0 0] = vz at *
      have hL := R.load (P := Tryz.prog) (n := 7) rfl
      (try simp only [Exit.inBlock, Exit.then])
      have HPA : paS s = (zOp0, 6) := HPQ.out
      exact bodyPost_ret (v := .tuple #[.agg #[.int .i64 0, .int .i64 0, .int .i64 0, .int .i64 0, .int .i64 0, .string ⟨#[]⟩, .slice none 0 0], .int .i64 6]) (by simp [results, Tryz.results12, go_sem]; rw [hL]; rfl) rfl ⟨none, 0, by rw [HPA]; rfl, by rw [HPA]; exact .inl ⟨rfl, rfl, rfl⟩, B⟩
     ·have HPQ : Hid (paS s = (X, 0)) := by (show paS s = _; rw [HPO.out, hok]; rfl)
      clear HPO
      have hL3 := O2.load (P := Tryz.prog) hAs
      have hst := Bo.store (P := Tryz.prog) (b := 0) A.toList 0 0 R rfl (by simp [hAs]) HON.out
      replace R : Bo (putA v7 w.heap.size 0 A.toList) w.heap.size A := R.putW (U := A) (by rw [hAs]; rfl)
      replace B := putA_below (k := w.heap.size) A.toList w v7 0 B (Nat.le_refl _)
      replace HL : LsA (putA v7 w.heap.size 0 A.toList) (w.heap.size + 1) p5 X.n c5 X.f := HL.but A.toList 0 (Nat.lt_succ_self _)
      clear O2
      go_wp2_with (first | rw [hL3] | rw [hst])
      clear hL3 hst
      generalize putA v7 w.heap.size 0 A.toList = vz at *
      have hL := R.load (P := Tryz.prog) hAs
      (try simp only [Exit.inBlock, Exit.then])
      exact bodyPost_ret (v := .tuple #[.agg A, .int .i64 0]) (by simp [results, Tryz.results12, go_sem]; rw [hL]; rfl) rfl ⟨p5, c5, by rw [HPQ.out, HA.out], by rw [HPQ.out]; exact HL.low (Nat.le_succ _), B⟩
   ·have hq : ((W.length : Int) != (cnK (K : Int) : Int) + 1 + 1) = true := by simp; omega
    have HPQ : Hid (paS s = (zOp0, 3)) := by (show paS s = _; rw [HPS.out]; exact paW_many HKE.out hK0 (by rw [mOk, if_neg hK1, hTB]; exact decide_eq_false (by simpa using hm)))
    clear hm
    have hst := Bo.store (P := Tryz.prog) (b := 0) [.int .i64 0, .int .i64 0, .int .i64 0, .int .i64 0, .int .i64 0, .string ⟨#[]⟩, .slice none 0 0] 0 0 R rfl (by simp) (opV_one zOp0 none 0)
    replace R : Bo (putA v2 w.heap.size 0 [.int .i64 0, .int .i64 0, .int .i64 0, .int .i64 0, .int .i64 0, .string ⟨#[]⟩, .slice none 0 0]) w.heap.size #[.int .i64 0, .int .i64 0, .int .i64 0, .int .i64 0, .int .i64 0, .string ⟨#[]⟩, .slice none 0 0] := R.putW (U := #[.int .i64 0, .int .i64 0, .int .i64 0, .int .i64 0, .int .i64 0, .string ⟨#[]⟩, .slice none 0 0]) rfl
    replace B := putA_below (k := w.heap.size) [.int .i64 0, .int .i64 0, .int .i64 0, .int .i64 0, .int .i64 0, .string ⟨#[]⟩, .slice none 0 0] w v2 0 B (Nat.le_refl _)
    go_wp2_with (rw [hst])
    clear hst
    generalize putA v2 w.heap.size 0 [.int .i64 0, .int .i64 0, .int .i64 0, .int .i64 0, .int .i64 0, .string ⟨#[]⟩, .slice none 0 0] = vz at *
    have hL := R.load (P := Tryz.prog) (n := 7) rfl
    (try simp only [Exit.inBlock, Exit.then])
    have HPA : paS s = (zOp0, 3) := HPQ.out
    exact bodyPost_ret (v := .tuple #[.agg #[.int .i64 0, .int .i64 0, .int .i64 0, .int .i64 0, .int .i64 0, .string ⟨#[]⟩, .slice none 0 0], .int .i64 3]) (by simp [results, Tryz.results12, go_sem]; rw [hL]; rfl) rfl ⟨none, 0, by rw [HPA]; rfl, by rw [HPA]; exact .inl ⟨rfl, rfl, rfl⟩, B⟩

end Go.Proofs.YtddjiamollfplaaGreatDoor
