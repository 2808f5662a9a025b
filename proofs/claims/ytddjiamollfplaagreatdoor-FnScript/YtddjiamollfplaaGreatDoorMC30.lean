/- The words put into their fields (the program). -/
import Derived.Test.YtddjiamollfplaaGreatDoorMC28
namespace Go.Proofs.YtddjiamollfplaaGreatDoor
open Go.RowKit
set_option linter.unusedVariables false

theorem fM {w : World} {k : Nat} {A : Array Value} (h : Bo w k A) {x : Addr} (hx : x.block ≠ k) (u : Value) : Bo (w.setCell x u) k A :=
 ⟨by simpa using h.1, fun i v hi => by rw [World.cell?_setCell_other _ _ _ _ (fun e => hx (by rw [e]))]; exact h.2.1 i v hi, fun i hi => by have := h.2.2 i hi; simpa using this⟩
attribute [-go_sem] loadCells storeCells in
set_option maxRecDepth 100000 in
set_option maxHeartbeats 16000000 in
theorem ng (W : List ByteArray) (L : List Addr) (pa : Option Addr) (cp gw cw base : Nat) (w : World) (EV : ∀ u, Below base w u → VN u) (hbase : base ≤ w.heap.size) (hl : L.length ≤ 9) (hp : ∀ (j : Nat) x, L[j]? = some x → ∃ g, pa = some ⟨g, 0, none⟩ ∧ g < w.heap.size ∧ (∀ (i : Nat) y, L[i]? = some y → y.block ≠ g) ∧ w.cell? ⟨g, 0 + j, none⟩ = some (.pointer (some x))) (hT : TgL base w L) (hN : eV L) (hgw : gw < base) (hW : W.length = L.length + 1 ∧ ∀ i, i < W.length → w.cell? ⟨gw, i, none⟩ = some (.string (W.getD i ⟨#[]⟩))) (hz : ∀ i, (W.getD i ⟨#[]⟩).size ≤ 20000) (hWm : W.length ≤ 1048576) :
 Calls Tryz.prog 32 #[.agg #[.slice pa L.length cp, .pointer none], .slice (some ⟨gw, 1, none⟩) (W.length - 1) cw] w fun e w' => ∃ Z t c, rdF W false (W.length - 1) = (Z, t, c) ∧ e = .returned (.int .i64 c) ∧ Below base w w' ∧ (c = 0 → Z.length = L.length ∧ (∀ (j : Nat) x, L[j]? = some x → w'.cell? x = some (.int .i64 (gI Z j))) ∧ (∀ q : Addr, q.block < w.heap.size → (∀ (j : Nat) x, L[j]? = some x → q ≠ x) → w'.cell? q = w.cell? q) ∧ (∀ q : Addr, q.block < w.heap.size → w'.frozen? q = w.frozen? q) ∧ c7 w w') := by
 obtain ⟨hWl, hwd⟩ := hW
 have HP : Hid (∀ (j : Nat) x, L[j]? = some x → ∃ g, pa = some ⟨g, 0, none⟩ ∧ g < w.heap.size ∧ (∀ (i : Nat) y, L[i]? = some y → y.block ≠ g) ∧ w.cell? ⟨g, 0 + j, none⟩ = some (.pointer (some x))) := hp
 have HT : Hid (TgL base w L) := hT
 have HLB : Hid (∀ (j : Nat) x, L[j]? = some x → x.block < w.heap.size) := fun j x hx => (hT j x hx).1
 have HN : Hid (eV L) := hN
 have HEV : Hid (∀ u, Below base w u → VN u) := EV
 have HC : Hid (∀ i, i < W.length → ∀ v, Below base w v → v.cell? ⟨gw, i, none⟩ = some (.string (W.getD i ⟨#[]⟩))) := fun i hi v hv => by rw [hv.cell (p := ⟨gw, i, none⟩) hgw]; exact hwd i hi
 have HS : Hid (∀ i, (W.getD i ⟨#[]⟩).size ≤ 20000) := hz
 have HLW : Hid (W.length = L.length + 1) := hWl

 have hW1 : L.length + 1 ≤ W.length := by omega
 have B := Below.nw w (.cells #[.slice pa L.length cp, .pointer none] 50)
 have R := Bo.new w #[.slice pa L.length cp, .pointer none] 50
 have D0 : Rdd base L [] w (w.alloc (.cells #[.slice pa L.length cp, .pointer none] 50)) := (Rdd.nil base L w).below HLB.out hbase B
 clear hp hT hN EV hwd hz hWl B
 go_enter Tryz.func32, Tryz.ntmps32
 go_upto_region 1 with fail
 generalize w.alloc (.cells #[.slice pa L.length cp, .pointer none] 50) = v0 at *
 have c0 : v0.cell? ⟨w.heap.size, 0, none⟩ = some (.slice pa L.length cp) := R.cell (i := 0) rfl
 go_wp2_with fail
 clear c0
 go_loopw [14] (fun i wr => ∃ (j : Nat) (Z : List Int) (t : ByteArray), j ≤ L.length ∧ i = .int .i64 (j : Int) ∧ rdF W false j = (Z, t, 0) ∧ Z.length = j ∧ Rdd base L Z w wr ∧ Bo wr w.heap.size #[.slice pa L.length cp, .pointer none]) (fun i _ => L.length - (intOf i).toNat)
 case atStart => exact ⟨0, [], ⟨#[]⟩, Nat.zero_le _, rfl, rfl, rfl, D0, R⟩
 case round =>
  clear D0 R
  obtain ⟨j, Z, t, hj, rfl, hrd, hZj, D, R⟩ := hrel
  have HRD : Hid (rdF W false j = (Z, t, 0)) := hrd
  have HD : Hid (Rdd base L Z w wr) := D
  have HZJ : Hid (Z.length = j) := hZj
  clear hrd D hZj
  by_cases hlt : j < L.length
  ·have hli : (j : Int) < (L.length : Int) := by omega
   obtain ⟨x, hxj⟩ : ∃ x, L[j]? = some x := ⟨L[j], List.getElem?_eq_getElem hlt⟩
   obtain ⟨gp, rfl, hg, hgn, hc⟩ := HP.out j x hxj
   have hc : wr.cell? ⟨gp, 0 + j, none⟩ = some (.pointer (some x)) := (HD.out.2.2.1 ⟨gp, 0 + j, none⟩ hg (fun i y _ hy e => hgn i y hy (congrArg Addr.block e.symm))).trans hc
   rw [Nat.zero_add] at hc
   obtain ⟨x1, x2, x3, ⟨u0, x4⟩, x5⟩ := HT.out j x hxj
   have HX : Hid (L[Z.length]? = some x ∧ x.block < w.heap.size ∧ base ≤ x.block ∧ x.spot = none ∧ w.cell? x = some u0) := ⟨by rw [HZJ.out]; exact hxj, x1, x2, x3, x4⟩
   have HF : Hid (w.frozen? x = false) := x5
   have hw1 : j + 1 < W.length := by omega
   have hw2 : j < W.length - 1 := by omega
   have hli2 : (j : Int) < (((W.length - 1 : Nat)) : Int) := by omega
   have cw : wr.cell? ⟨gw, 1 + j, none⟩ = some (.string (W.getD (j + 1) ⟨#[]⟩)) := by (rw [Nat.add_comm 1 j]; exact HC.out (j + 1) hw1 wr HD.out.1)
   have HRN : Hid (rdF W false (j + 1) = if nuB (W.getD (j + 1) ⟨#[]⟩) = true then (Z ++ [nuI (W.getD (j + 1) ⟨#[]⟩)], t, 0) else (Z, t, 4)) := by
    have q := gd (W := W) (tb := false) (j := j) (by rw [HRD.out]) (fun h => by cases h.1)
    rw [HRD.out] at q
    exact q
   have CX := da (W.getD (j + 1) ⟨#[]⟩) wr (Nat.le_trans (HS.out _) (by decide)) (HEV.out wr HD.out.1)
   clear x1 x2 x3 x4 x5 hxj hgn HRD hg
   generalize W.getD (j + 1) ⟨#[]⟩ = wd at *
   generalize nuB wd = fb at *
   generalize nuI wd = fo at *
   go_wp2_with fail
   refine CX.mono ?_
   rintro e v3 ⟨rfl, hb⟩
   clear CX hc cw
   replace R := R.below hb
   have HD3 : Hid (Rdd base L Z w v3) := HD.out.below HLB.out hbase hb
   clear hb HD
   cases fb
   ·have HBD : Hid (rdF W false (W.length - 1) = (Z, t, 4)) := by
     show rdF W false (W.length - 1) = _
     have q := gc (W := W) (tb := false) (j := j + 1) (by rw [HRN.out, if_neg (by decide)]; exact (by decide : ¬ (4 : Int) = 0)) (W.length - 1 - (j + 1))
     rw [show j + 1 + (W.length - 1 - (j + 1)) = W.length - 1 by omega, HRN.out] at q
     exact q
    clear HRN
    go_wp2_with fail
    go_ret
    exact ⟨_, _, 4, HBD.out, rfl, HD3.out.1, fun h => absurd h (by decide)⟩
   ·have HBD : Hid (rdF W false (j + 1) = (Z ++ [fo], t, 0)) := HRN.out
    clear HRN
    have ct : v3.cell? x = some u0 := (HD3.out.at HN.out HX.out.1 HX.out.2.1).trans HX.out.2.2.2.2
    have cf : v3.frozen? x = false := (HD3.out.2.1 x HX.out.2.1).trans HF.out
    have hst := aw (P := Tryz.prog) (v := .int .i64 fo) ct cf rfl
    have D4 : Rdd base L (Z ++ [fo]) w (v3.setCell x (.int .i64 fo)) := HD3.out.put HN.out HX.out.1 HX.out.2.1 HX.out.2.2.1 HX.out.2.2.2.1 HX.out.2.2.2.2 fo
    have R4 : Bo (v3.setCell x (.int .i64 fo)) w.heap.size #[.slice (some ⟨gp, 0, none⟩) L.length cp, .pointer none] := fM R (by have := HX.out.2.1; omega) _
    have HD4 : Hid (Rdd base L (Z ++ [fo]) w (v3.setCell x (.int .i64 fo)) ∧ Bo (v3.setCell x (.int .i64 fo)) w.heap.size #[.slice (some ⟨gp, 0, none⟩) L.length cp, .pointer none]) := ⟨D4, R4⟩
    have hZ2 : (Z ++ [fo]).length = j + 1 := by rw [List.length_append, HZJ.out]; rfl
    clear ct cf D4 R4 R
    go_wp2_with (rw [hst])
    clear hst
    go_roundw
    case rel => exact ⟨j + 1, Z ++ [fo], t, by omega, by go_num, HBD.out, hZ2, HD4.out⟩
    case measure => simp [intOf]; omega
  have hjL : j = L.length := by omega
  have hZl : Z.length = L.length := by rw [HZJ.out]; exact hjL
  have hli : ¬ (j : Int) < (L.length : Int) := by omega
  clear hlt HP HT HN
  have c1 : wr.cell? ⟨w.heap.size, 1, none⟩ = some (.pointer none) := R.cell (i := 1) rfl
  have hjl : j = W.length - 1 := by have := HLW.out; omega
  have HZ : Hid (rdF W false (W.length - 1) = (Z, t, 0)) := by (show rdF W false _ = _; rw [← hjl]; exact HRD.out)
  clear hjl HRD
  go_wp2_with fail
  go_ret
  obtain ⟨d1, d2, d3, d4, d5⟩ := HD.out
  exact ⟨Z, t, 0, HZ.out, rfl, d1, fun _ => ⟨hZl, fun i x hx => d4 i x (by rw [hZl]; exact (List.getElem?_eq_some_iff.1 hx).1) hx, fun q hq hn => d3 q hq (fun i x _ hx => hn i x hx), d2, d5⟩⟩
attribute [-go_sem] loadCells storeCells in
set_option maxRecDepth 100000 in
set_option maxHeartbeats 16000000 in
theorem ni (W : List ByteArray) (L : List Addr) (pa : Option Addr) (cp gw cw base : Nat) (w : World) (EV : ∀ u, Below base w u → VN u) (hbase : base ≤ w.heap.size) (hl : L.length ≤ 9) (hp : ∀ (j : Nat) x, L[j]? = some x → ∃ g, pa = some ⟨g, 0, none⟩ ∧ g < w.heap.size ∧ (∀ (i : Nat) y, L[i]? = some y → y.block ≠ g) ∧ w.cell? ⟨g, 0 + j, none⟩ = some (.pointer (some x))) (hT : TgL base w L) (hN : eV L) (hgw : gw < base) (hW : W.length = L.length + 2 ∧ ∀ i, i < W.length → w.cell? ⟨gw, i, none⟩ = some (.string (W.getD i ⟨#[]⟩))) (hz : ∀ i, (W.getD i ⟨#[]⟩).size ≤ 20000) (hWm : W.length ≤ 1048576) (ad : Addr) (hta : ad.block < w.heap.size ∧ base ≤ ad.block ∧ ad.spot = none ∧ (∃ u, w.cell? ad = some u) ∧ w.frozen? ad = false) (hna : ∀ (j : Nat) x, L[j]? = some x → x ≠ ad) :
 Calls Tryz.prog 32 #[.agg #[.slice pa L.length cp, .pointer (some ad)], .slice (some ⟨gw, 1, none⟩) (W.length - 1) cw] w fun e w' => ∃ Z t c, rdF W true (W.length - 1) = (Z, t, c) ∧ e = .returned (.int .i64 c) ∧ Below base w w' ∧ (c = 0 → Z.length = L.length ∧ (∀ (j : Nat) x, L[j]? = some x → w'.cell? x = some (.int .i64 (gI Z j))) ∧ w'.cell? ad = some (.string t) ∧ (∀ q : Addr, q.block < w.heap.size → (∀ (j : Nat) x, L[j]? = some x → q ≠ x) → q ≠ ad → w'.cell? q = w.cell? q) ∧ (∀ q : Addr, q.block < w.heap.size → w'.frozen? q = w.frozen? q) ∧ c7 w w') := by
 obtain ⟨hWl, hwd⟩ := hW
 have HP : Hid (∀ (j : Nat) x, L[j]? = some x → ∃ g, pa = some ⟨g, 0, none⟩ ∧ g < w.heap.size ∧ (∀ (i : Nat) y, L[i]? = some y → y.block ≠ g) ∧ w.cell? ⟨g, 0 + j, none⟩ = some (.pointer (some x))) := hp
 have HT : Hid (TgL base w L) := hT
 have HLB : Hid (∀ (j : Nat) x, L[j]? = some x → x.block < w.heap.size) := fun j x hx => (hT j x hx).1
 have HN : Hid (eV L) := hN
 have HEV : Hid (∀ u, Below base w u → VN u) := EV
 have HC : Hid (∀ i, i < W.length → ∀ v, Below base w v → v.cell? ⟨gw, i, none⟩ = some (.string (W.getD i ⟨#[]⟩))) := fun i hi v hv => by rw [hv.cell (p := ⟨gw, i, none⟩) hgw]; exact hwd i hi
 have HS : Hid (∀ i, (W.getD i ⟨#[]⟩).size ≤ 20000) := hz
 have HLW : Hid (W.length = L.length + 2) := hWl
 have HNA : Hid (∀ (j : Nat) x, L[j]? = some x → x ≠ ad) := hna
 have hW1 : L.length + 1 ≤ W.length := by omega
 have B := Below.nw w (.cells #[.slice pa L.length cp, .pointer (some ad)] 50)
 have R := Bo.new w #[.slice pa L.length cp, .pointer (some ad)] 50
 have D0 : Rdd base L [] w (w.alloc (.cells #[.slice pa L.length cp, .pointer (some ad)] 50)) := (Rdd.nil base L w).below HLB.out hbase B
 clear hp hT hN EV hwd hz hWl hna B
 go_enter Tryz.func32, Tryz.ntmps32
 go_upto_region 1 with fail
 generalize w.alloc (.cells #[.slice pa L.length cp, .pointer (some ad)] 50) = v0 at *
 have c0 : v0.cell? ⟨w.heap.size, 0, none⟩ = some (.slice pa L.length cp) := R.cell (i := 0) rfl
 go_wp2_with fail
 clear c0
 go_loopw [14] (fun i wr => ∃ (j : Nat) (Z : List Int) (t : ByteArray), j ≤ L.length ∧ i = .int .i64 (j : Int) ∧ rdF W true j = (Z, t, 0) ∧ Z.length = j ∧ Rdd base L Z w wr ∧ Bo wr w.heap.size #[.slice pa L.length cp, .pointer (some ad)]) (fun i _ => L.length - (intOf i).toNat)
 case atStart => exact ⟨0, [], ⟨#[]⟩, Nat.zero_le _, rfl, rfl, rfl, D0, R⟩
 case round =>
  clear D0 R
  obtain ⟨j, Z, t, hj, rfl, hrd, hZj, D, R⟩ := hrel
  have HRD : Hid (rdF W true j = (Z, t, 0)) := hrd
  have HD : Hid (Rdd base L Z w wr) := D
  have HZJ : Hid (Z.length = j) := hZj
  clear hrd D hZj
  by_cases hlt : j < L.length
  ·have hli : (j : Int) < (L.length : Int) := by omega
   obtain ⟨x, hxj⟩ : ∃ x, L[j]? = some x := ⟨L[j], List.getElem?_eq_getElem hlt⟩
   obtain ⟨gp, rfl, hg, hgn, hc⟩ := HP.out j x hxj
   have hc : wr.cell? ⟨gp, 0 + j, none⟩ = some (.pointer (some x)) := (HD.out.2.2.1 ⟨gp, 0 + j, none⟩ hg (fun i y _ hy e => hgn i y hy (congrArg Addr.block e.symm))).trans hc
   rw [Nat.zero_add] at hc
   obtain ⟨x1, x2, x3, ⟨u0, x4⟩, x5⟩ := HT.out j x hxj
   have HX : Hid (L[Z.length]? = some x ∧ x.block < w.heap.size ∧ base ≤ x.block ∧ x.spot = none ∧ w.cell? x = some u0) := ⟨by rw [HZJ.out]; exact hxj, x1, x2, x3, x4⟩
   have HF : Hid (w.frozen? x = false) := x5
   have hw1 : j + 1 < W.length := by omega
   have hw2 : j < W.length - 1 := by omega
   have hli2 : (j : Int) < (((W.length - 1 : Nat)) : Int) := by omega
   have cw : wr.cell? ⟨gw, 1 + j, none⟩ = some (.string (W.getD (j + 1) ⟨#[]⟩)) := by (rw [Nat.add_comm 1 j]; exact HC.out (j + 1) hw1 wr HD.out.1)
   have HRN : Hid (rdF W true (j + 1) = if nuB (W.getD (j + 1) ⟨#[]⟩) = true then (Z ++ [nuI (W.getD (j + 1) ⟨#[]⟩)], t, 0) else (Z, t, 4)) := by
    have q := gd (W := W) (tb := true) (j := j) (by rw [HRD.out]) (fun h => by have := HLW.out; omega)
    rw [HRD.out] at q
    exact q
   have CX := da (W.getD (j + 1) ⟨#[]⟩) wr (Nat.le_trans (HS.out _) (by decide)) (HEV.out wr HD.out.1)
   clear x1 x2 x3 x4 x5 hxj hgn HRD hg
   generalize W.getD (j + 1) ⟨#[]⟩ = wd at *
   generalize nuB wd = fb at *
   generalize nuI wd = fo at *
   go_wp2_with fail
   refine CX.mono ?_
   rintro e v3 ⟨rfl, hb⟩
   clear CX hc cw
   replace R := R.below hb
   have HD3 : Hid (Rdd base L Z w v3) := HD.out.below HLB.out hbase hb
   clear hb HD
   cases fb
   ·have HBD : Hid (rdF W true (W.length - 1) = (Z, t, 4)) := by
     show rdF W true (W.length - 1) = _
     have q := gc (W := W) (tb := true) (j := j + 1) (by rw [HRN.out, if_neg (by decide)]; exact (by decide : ¬ (4 : Int) = 0)) (W.length - 1 - (j + 1))
     rw [show j + 1 + (W.length - 1 - (j + 1)) = W.length - 1 by omega, HRN.out] at q
     exact q
    clear HRN
    go_wp2_with fail
    go_ret
    exact ⟨_, _, 4, HBD.out, rfl, HD3.out.1, fun h => absurd h (by decide)⟩
   ·have HBD : Hid (rdF W true (j + 1) = (Z ++ [fo], t, 0)) := HRN.out
    clear HRN
    have ct : v3.cell? x = some u0 := (HD3.out.at HN.out HX.out.1 HX.out.2.1).trans HX.out.2.2.2.2
    have cf : v3.frozen? x = false := (HD3.out.2.1 x HX.out.2.1).trans HF.out
    have hst := aw (P := Tryz.prog) (v := .int .i64 fo) ct cf rfl
    have D4 : Rdd base L (Z ++ [fo]) w (v3.setCell x (.int .i64 fo)) := HD3.out.put HN.out HX.out.1 HX.out.2.1 HX.out.2.2.1 HX.out.2.2.2.1 HX.out.2.2.2.2 fo
    have R4 : Bo (v3.setCell x (.int .i64 fo)) w.heap.size #[.slice (some ⟨gp, 0, none⟩) L.length cp, .pointer (some ad)] := fM R (by have := HX.out.2.1; omega) _
    have HD4 : Hid (Rdd base L (Z ++ [fo]) w (v3.setCell x (.int .i64 fo)) ∧ Bo (v3.setCell x (.int .i64 fo)) w.heap.size #[.slice (some ⟨gp, 0, none⟩) L.length cp, .pointer (some ad)]) := ⟨D4, R4⟩
    have hZ2 : (Z ++ [fo]).length = j + 1 := by rw [List.length_append, HZJ.out]; rfl
    clear ct cf D4 R4 R
    go_wp2_with (rw [hst])
    clear hst
    go_roundw
    case rel => exact ⟨j + 1, Z ++ [fo], t, by omega, by go_num, HBD.out, hZ2, HD4.out⟩
    case measure => simp [intOf]; omega
  have hjL : j = L.length := by omega
  have hZl : Z.length = L.length := by rw [HZJ.out]; exact hjL
  have hli : ¬ (j : Int) < (L.length : Int) := by omega
  clear hlt HP HT HN
  have c1 : wr.cell? ⟨w.heap.size, 1, none⟩ = some (.pointer (some ad)) := R.cell (i := 1) rfl
  have c0 : wr.cell? ⟨w.heap.size, 0, none⟩ = some (.slice pa L.length cp) := R.cell (i := 0) rfl
  have hww : w.heap.size < wr.heap.size := R.1
  have hj1 : L.length + 1 < W.length := by have := HLW.out; omega
  have hc : wr.cell? ⟨gw, 1 + L.length, none⟩ = some (.string (W.getD (L.length + 1) ⟨#[]⟩)) := by (rw [Nat.add_comm 1 L.length]; exact HC.out (L.length + 1) hj1 wr HD.out.1)
  have hcl : L.length < W.length - 1 := by omega
  have hli2 : (L.length : Int) < (((W.length - 1 : Nat)) : Int) := by omega
  have HRT : Hid (rdF W true (W.length - 1) = if fhB (W.getD (L.length + 1) ⟨#[]⟩) = true then (Z, fhO (W.getD (L.length + 1) ⟨#[]⟩), 0) else (Z, t, 5)) := by
   have q := ic (W := W) (j := L.length) (by rw [← hjL, HRD.out]) (by have := HLW.out; omega)
   rw [← hjL, HRD.out, hjL] at q
   show rdF W true (W.length - 1) = _
   rw [show W.length - 1 = L.length + 1 by have := HLW.out; omega]
   exact q
  have CX := dU (W.getD (L.length + 1) ⟨#[]⟩) wr (Nat.le_trans (HS.out _) (by decide))
  clear HRD
  generalize W.getD (L.length + 1) ⟨#[]⟩ = x at *
  generalize fhB x = fb at *
  generalize fhO x = fo at *
  go_wp2_with fail
  refine CX.mono ?_
  rintro e v3 ⟨rfl, hb⟩
  clear CX hc c0 c1
  replace R := R.below hb
  have HD3 : Hid (Rdd base L Z w v3) := HD.out.below HLB.out hbase hb
  have hww3 : w.heap.size < v3.heap.size := Nat.lt_of_lt_of_le hww hb.size
  clear hb HD
  cases fb
  ·have HBD : Hid (rdF W true (W.length - 1) = (Z, t, 5)) := HRT.out
   clear HRT
   go_wp2_with fail
   go_ret
   exact ⟨_, _, 5, HBD.out, rfl, HD3.out.1, fun h => absurd h (by decide)⟩
  ·have HBD : Hid (rdF W true (W.length - 1) = (Z, fo, 0)) := HRT.out
   clear HRT
   obtain ⟨t1, t2, t3, ⟨u0, t4⟩, t5⟩ := hta
   have HTA : Hid (ad.block < w.heap.size ∧ base ≤ ad.block ∧ ad.spot = none) := ⟨t1, t2, t3⟩
   have ct : v3.cell? ad = some u0 := (HD3.out.2.2.1 ad t1 (fun i y _ hy e => HNA.out i y hy e.symm)).trans t4
   have cf : v3.frozen? ad = false := (HD3.out.2.1 ad t1).trans t5
   have hst := aw (P := Tryz.prog) (v := .string fo) ct cf rfl
   have c1 : v3.cell? ⟨w.heap.size, 1, none⟩ = some (.pointer (some ad)) := R.cell (i := 1) rfl
   have HCT : Hid (v3.cell? ad = some u0) := ct
   clear t1 t2 t3 t4 t5 ct cf
   go_wp2_with (rw [hst])
   go_ret
   obtain ⟨d1, d2, d3, d4, d5⟩ := HD3.out
   obtain ⟨t1, t2, t3⟩ := HTA.out
   refine ⟨Z, fo, 0, HBD.out, rfl, d1.setCell t2 _, fun _ => ⟨hZl, fun i x hx => ?_, World.cell?_setCell_same _ _ _ HCT.out, fun q hq hn hqa => ?_, fun q hq => ?_, d5.put t3 _⟩⟩
   ·rw [World.cell?_setCell_other _ _ _ _ (fun e => HNA.out i x hx e.symm)]
    exact d4 i x (by rw [hZl]; exact (List.getElem?_eq_some_iff.1 hx).1) hx
   ·rw [World.cell?_setCell_other _ _ _ _ (fun e => hqa e.symm)]
    exact d3 q hq (fun i x _ hx => hn i x hx)
   ·have := d2 q hq
    simpa using this

end Go.Proofs.YtddjiamollfplaaGreatDoor
