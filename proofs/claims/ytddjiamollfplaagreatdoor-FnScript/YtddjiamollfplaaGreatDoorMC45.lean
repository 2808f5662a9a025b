/- ParseScript (the program). -/
import Derived.Test.YtddjiamollfplaaGreatDoorMC32
namespace Go.Proofs.YtddjiamollfplaaGreatDoor
open Go.RowKit
set_option linter.unusedVariables false

def obS (k : Nat) (l : ByteArray) (b : Bool) : OpD × Int := if k = 200 then (bf, 1) else if b = true then paS l else (bf, 7)
theorem iV (k : Nat) (l : ByteArray) (b : Bool) : (obS k l b).1.n ≤ 8 ∧ (obS k l b).1.tx.size ≤ 64 := by
 unfold obS
 split
 ·exact ⟨Nat.zero_le _, Nat.zero_le _⟩
 ·split
  ·exact nc l
  ·exact ⟨Nat.zero_le _, Nat.zero_le _⟩
theorem eD {L : List ByteArray} {e k : Nat} {D : List OpD} {l : ByteArray} {b : Bool} (h : psF L e k = (D, 0)) (hl : L.getD k ⟨#[]⟩ = l) (hb : decide (k < e) = b) : psF L e (k + 1) = if (obS k l b).2 = 0 then (D ++ [(obS k l b).1], 0) else (D, (obS k l b).2) := by
 rw [psF, h, if_pos rfl, hl, obS]
 by_cases h1 : k = 200
 ·rw [if_pos h1, if_pos h1, if_neg (show ¬ (1 : Int) = 0 by decide)]
 ·rw [if_neg h1, if_neg h1]
  by_cases h2 : k < e
  ·have hbt : b = true := by rw [← hb]; exact decide_eq_true h2
   rw [if_pos h2, if_pos hbt]
  ·have hbf : ¬ b = true := by rw [← hb, decide_eq_false h2]; decide
   rw [if_neg h2, if_neg hbf, if_neg (show ¬ (7 : Int) = 0 by decide)]
theorem dM {w : World} {base : Nat} {v : Value} {L : List ByteArray} (h : w.ownsRow base 9 1 v L.length (stR L)) :
 ∃ a cap, v = .slice a L.length cap ∧ ∀ j, j < L.length → ∃ g, a = some ⟨g, 0, none⟩ ∧ g < w.heap.size ∧ w.cell? ⟨g, j, none⟩ = some (.string (L.getD j ⟨#[]⟩)) := by
 by_cases h0 : 0 < L.length
 ·obtain ⟨g, cap, e, hg, _, hc⟩ := eA h h0
  refine ⟨_, cap, e, fun j hj => ⟨g, rfl, hg, ?_⟩⟩
  have q := hc j _ (jX hj)
  rw [Nat.zero_add] at q
  exact q
 ·rcases h.2 with ⟨e, h1⟩ | ⟨g, cap, cur, e, _⟩
  ·exact ⟨none, 0, by rw [h1]; exact e, fun j hj => absurd hj (by omega)⟩
  ·exact ⟨_, cap, e, fun j hj => absurd hj (by omega)⟩
attribute [-go_sem] loadCells storeCells in
set_option maxRecDepth 100000 in
set_option maxHeartbeats 16000000 in
theorem cH (k : Nat) (l : ByteArray) (b : Bool) (w : World) (EV : VN w) (EO : OpW w) (hk : k ≤ 1048576) (hm : l.size ≤ maxLen) :
 Calls Tryz.prog 50 #[.int .i64 (k : Int), .string l, .bool b] w fun e w' => ∃ p c, e = .returned (.tuple #[.agg (opV (obS k l b).1 p c), .int .i64 (obS k l b).2]) ∧ RwA w' w.heap.size p (obS k l b).1.n c (obS k l b).1.f ∧ Below w.heap.size w w' := by
 have B := Below.nw w (.cells #[.int .i64 0, .int .i64 0, .int .i64 0, .int .i64 0, .int .i64 0, .string ⟨#[]⟩, .slice none 0 0] 26)
 have R := Bo.new w #[.int .i64 0, .int .i64 0, .int .i64 0, .int .i64 0, .int .i64 0, .string ⟨#[]⟩, .slice none 0 0] 26
 have CX := fun (v : World) (h : Below w.heap.size w v) => fa l v (EV.below h) (EO.below h) hm
 clear EV EO hm
 go_enter Tryz.func50, Tryz.ntmps50
 go_upto_region 1 with fail
 generalize w.alloc (.cells #[.int .i64 0, .int .i64 0, .int .i64 0, .int .i64 0, .int .i64 0, .string ⟨#[]⟩, .slice none 0 0] 26) = v0 at *
 by_cases h1 : k = 200
 ·have hq : ((k : Int) == 200) = true := by simp [h1]
  have HPQ : Hid (obS k l b = (bf, 1)) := by (show obS k l b = _; rw [obS, if_pos h1])
  clear h1 CX
  have hst := Bo.store (P := Tryz.prog) (b := 0) [.int .i64 0, .int .i64 0, .int .i64 0, .int .i64 0, .int .i64 0, .string ⟨#[]⟩, .slice none 0 0] 0 0 R rfl (by simp) (be bf none 0)
  replace R : Bo (ac v0 w.heap.size 0 [.int .i64 0, .int .i64 0, .int .i64 0, .int .i64 0, .int .i64 0, .string ⟨#[]⟩, .slice none 0 0]) w.heap.size #[.int .i64 0, .int .i64 0, .int .i64 0, .int .i64 0, .int .i64 0, .string ⟨#[]⟩, .slice none 0 0] := R.putW (U := #[.int .i64 0, .int .i64 0, .int .i64 0, .int .i64 0, .int .i64 0, .string ⟨#[]⟩, .slice none 0 0]) rfl
  replace B := ai (k := w.heap.size) [.int .i64 0, .int .i64 0, .int .i64 0, .int .i64 0, .int .i64 0, .string ⟨#[]⟩, .slice none 0 0] w v0 0 B (Nat.le_refl _)
  go_wp2_with (rw [hst])
  clear hst
  generalize ac v0 w.heap.size 0 [.int .i64 0, .int .i64 0, .int .i64 0, .int .i64 0, .int .i64 0, .string ⟨#[]⟩, .slice none 0 0] = vz at *
  have hL := R.load (P := Tryz.prog) (n := 7) rfl
  (try simp only [Exit.inBlock, Exit.then])
  exact bodyPost_ret (v := .tuple #[.agg #[.int .i64 0, .int .i64 0, .int .i64 0, .int .i64 0, .int .i64 0, .string ⟨#[]⟩, .slice none 0 0], .int .i64 1]) (by simp [results, Tryz.results50, go_sem]; rw [hL]; rfl) rfl ⟨none, 0, by rw [HPQ.out]; rfl, by rw [HPQ.out]; exact .inl ⟨rfl, rfl, rfl⟩, B⟩
 have hq : ((k : Int) == 200) = false := by simp; omega
 cases b
 ·have HPQ : Hid (obS k l false = (bf, 7)) := by (show obS k l false = _; rw [obS, if_neg h1]; rfl)
  clear h1 CX
  have hst := Bo.store (P := Tryz.prog) (b := 0) [.int .i64 0, .int .i64 0, .int .i64 0, .int .i64 0, .int .i64 0, .string ⟨#[]⟩, .slice none 0 0] 0 0 R rfl (by simp) (be bf none 0)
  replace R : Bo (ac v0 w.heap.size 0 [.int .i64 0, .int .i64 0, .int .i64 0, .int .i64 0, .int .i64 0, .string ⟨#[]⟩, .slice none 0 0]) w.heap.size #[.int .i64 0, .int .i64 0, .int .i64 0, .int .i64 0, .int .i64 0, .string ⟨#[]⟩, .slice none 0 0] := R.putW (U := #[.int .i64 0, .int .i64 0, .int .i64 0, .int .i64 0, .int .i64 0, .string ⟨#[]⟩, .slice none 0 0]) rfl
  replace B := ai (k := w.heap.size) [.int .i64 0, .int .i64 0, .int .i64 0, .int .i64 0, .int .i64 0, .string ⟨#[]⟩, .slice none 0 0] w v0 0 B (Nat.le_refl _)
  go_wp2_with (rw [hst])
  clear hst
  generalize ac v0 w.heap.size 0 [.int .i64 0, .int .i64 0, .int .i64 0, .int .i64 0, .int .i64 0, .string ⟨#[]⟩, .slice none 0 0] = vz at *
  have hL := R.load (P := Tryz.prog) (n := 7) rfl
  (try simp only [Exit.inBlock, Exit.then])
  exact bodyPost_ret (v := .tuple #[.agg #[.int .i64 0, .int .i64 0, .int .i64 0, .int .i64 0, .int .i64 0, .string ⟨#[]⟩, .slice none 0 0], .int .i64 7]) (by simp [results, Tryz.results50, go_sem]; rw [hL]; rfl) rfl ⟨none, 0, by rw [HPQ.out]; rfl, by rw [HPQ.out]; exact .inl ⟨rfl, rfl, rfl⟩, B⟩
 ·have HPQ : Hid (obS k l true = paS l) := by (show obS k l true = _; rw [obS, if_neg h1]; rfl)
  clear h1
  have CY := CX v0 B
  clear CX
  have HP : Hid (paS l = ((paS l).1, (paS l).2)) := rfl
  generalize hX : (paS l).1 = X at CY HP
  generalize hc : (paS l).2 = cd at CY HP
  clear hX hc
  go_wp2_with fail
  refine CY.mono ?_
  rintro e v1 ⟨p, c, rfl, HL, hb⟩
  clear CY
  have hlt := R.1
  replace R := R.below hb
  replace HL := HL.low (show w.heap.size + 1 ≤ v0.heap.size from hlt)
  replace B := B.trans (hb.mono B.size)
  clear hb
  generalize hAA : opV X p c = A at *
  have HA : Hid (A = opV X p c) := hAA.symm
  have hAs : A.size = 7 := by (rw [← hAA]; rfl)
  have hone := be X p c
  rw [hAA] at hone
  clear hAA
  have hst := Bo.store (P := Tryz.prog) (b := 0) A.toList 0 0 R rfl (by simp [hAs]) hone
  replace R : Bo (ac v1 w.heap.size 0 A.toList) w.heap.size A := R.putW (U := A) (by rw [hAs]; rfl)
  replace B := ai (k := w.heap.size) A.toList w v1 0 B (Nat.le_refl _)
  replace HL : RwA (ac v1 w.heap.size 0 A.toList) (w.heap.size + 1) p X.n c X.f := HL.but A.toList 0 (Nat.lt_succ_self _)
  have HON : Hid (∀ u ∈ A.toList, u.oneCell' = true) := hone
  clear hone
  go_wp2_with (rw [hst])
  clear hst
  generalize ac v1 w.heap.size 0 A.toList = vz at *
  have hL := R.load (P := Tryz.prog) hAs
  (try simp only [Exit.inBlock, Exit.then])
  exact bodyPost_ret (v := .tuple #[.agg A, .int .i64 cd]) (by simp [results, Tryz.results50, go_sem]; rw [hL]; rfl) rfl ⟨p, c, by rw [HPQ.out, HP.out, HA.out], by rw [HPQ.out, HP.out]; exact HL.low (Nat.le_succ _), B⟩
attribute [-go_sem] loadCells storeCells in
set_option maxRecDepth 100000 in
set_option maxHeartbeats 16000000 in
theorem dt (s : ByteArray) (w : World) (hm : s.size ≤ maxLen) (hs : 20000 < s.size) :
 Calls Tryz.prog 17 #[.string s] w fun e w' => ∃ v, e = .returned (.tuple #[v, .int .i64 ((psS s).1.length : Int), .int .i64 (psS s).2]) ∧ bN true w' w.heap.size v (psS s).1.length (gX (psS s).1) ∧ Below w.heap.size w w' := by
 unfold maxLen at hm
 have HR : Hid (psS s = ([], 1)) := lu hs
 have hd : (20000 : Int) < (s.size : Int) := by omega
 go_enter Tryz.func17, Tryz.ntmps17
 go_wp2_with fail
 exact bodyPost_ret (v := .tuple #[.slice none 0 0, .int .i64 0, .int .i64 1]) (by simp [results, Tryz.results17, go_sem]) rfl ⟨_, by rw [HR.out]; rfl, by rw [HR.out]; exact bN.none true w w.heap.size _ (Nat.le_refl _), Below.refl _ _⟩
attribute [-go_sem] loadCells storeCells in
set_option maxRecDepth 100000 in
set_option maxHeartbeats 16000000 in
theorem dJ (s : ByteArray) (w : World) (EV : VN w) (EO : OpW w) (hs : s.size ≤ 20000) :
 Calls Tryz.prog 17 #[.string s] w fun e w' => ∃ v, e = .returned (.tuple #[v, .int .i64 ((psS s).1.length : Int), .int .i64 (psS s).2]) ∧ bN true w' w.heap.size v (psS s).1.length (gX (psS s).1) ∧ Below w.heap.size w w' := by
 have HPS0 := jN (s := s) (by omega)
 have HV : Hid (VN w) := EV
 have HO : Hid (OpW w) := EO
 have hd : ¬ (20000 : Int) < (s.size : Int) := by omega
 clear EV EO
 go_enter Tryz.func17, Tryz.ntmps17
 go_wp2_with fail
 refine (fw s 10 (by decide) (by decide) w hs).mono ?_
 rintro e0 v1 ⟨u, rfl, OL, B, hlo1⟩
 have HLL : Hid (dw s = (av s 10 s.size).2 ++ (if (dO s).size = 0 then [] else [dO s])) := rfl
 have hrs : (dO s).size ≤ s.size := by (rw [dO, ByteArray.size_extract]; omega)
 have hne := (cv s 10 s.size).2
 have HLS : Hid (∀ j, ((dw s).getD j ⟨#[]⟩).size ≤ 20000) := fun j => by
  have q : ∀ x ∈ dw s, x.size ≤ s.size := fun x hx => by
   rw [HLL.out] at hx
   rcases List.mem_append.1 hx with hx | hx
   ·exact dp s 10 _ x hx
   ·split at hx
    ·cases hx
    ·rw [List.mem_singleton.1 hx]; exact hrs
  exact Nat.le_trans (jW q j) hs
 change Hid _ at HLS
 have HPS : Hid (psS s = psF (dw s) (av s 10 s.size).2.length (dw s).length) := HPS0
 clear HPS0
 change v1.ownsRow (w.heap.size + 1) 9 1 u (av s 10 s.size).2.length (stR (av s 10 s.size).2) at OL
 rw [show s.extract (av s 10 s.size).1 s.size = dO s from rfl]
 generalize (av s 10 s.size).2 = EN at *
 generalize hLS : dw s = LS at *
 obtain ⟨a, cp, rfl, _⟩ := dM OL
 generalize dO s = rs at *
 by_cases hr0 : rs.size = 0
 ·have hre := jn hr0
  have hLE : LS = EN := by rw [HLL.out, if_pos hr0, List.append_nil]
  subst hLE
  have hN2 : LS.length ≤ 20001 := by omega
  have LV := OL
  clear HLL hLS hr0 hrs hne OL
  go_upto_region 7 with fail
  generalize v1 = vL at *
  obtain ⟨a, cp, hv, hcl⟩ := dM LV
  cases hv
  have HCL : Hid (∀ j, j < LS.length → ∃ g, a = some ⟨g, 0, none⟩ ∧ g < vL.heap.size ∧ vL.cell? ⟨g, j, none⟩ = some (.string (LS.getD j ⟨#[]⟩))) := hcl
  clear hcl LV
  have hNI : (LS.length : Int) ≤ 1048576 := by omega
  generalize hNN : LS.length = N at *
  have HNN : Hid (LS.length = N) := hNN
  clear hNN
  have BL0 := Below.refl vL.heap.size vL
  go_wp2_with fail
  (try go_simp)
  (try go_wp2_with fail)
  go_loopw [8, 31] (fun out i wr => ∃ (k : Nat) (D : List OpD), k ≤ N ∧ i = .int .i64 (k : Int) ∧ psF LS N k = (D, 0) ∧ D.length = k ∧ k ≤ 200 ∧ bN true wr vL.heap.size out D.length (gX D) ∧ Below w.heap.size w wr ∧ Below vL.heap.size vL wr) (fun _ i _ => N - (intOf i).toNat)
  case atStart => exact ⟨0, [], Nat.zero_le _, rfl, rfl, rfl, Nat.zero_le _, bN.none true vL vL.heap.size _ (Nat.le_refl _), B, BL0⟩
  case round =>
   have HWL : Hid (w.heap.size ≤ vL.heap.size) := B.size
   clear B BL0
   obtain ⟨k, D, hk, rfl, hpd, hdl, hk2, OR, B, BL⟩ := hrel
   have HPD : Hid (psF LS N k = (D, 0)) := hpd
   have HDL : Hid (D.length = k) := hdl
   have hlo : w.heap.size ≤ wr.heap.size := B.size
   obtain ⟨a2, cp2, rfl, _⟩ := OR.rwp
   have hD4 : D.length ≤ 200 := by omega
   clear hpd hdl
   by_cases hlt : k < N
   ·have hli : (k : Int) < (N : Int) := by omega
    obtain ⟨g, rfl, hg, hc⟩ := HCL.out k hlt
    replace hc := (BL.cell (p := ⟨g, k, none⟩) hg).trans hc
    have hls := HLS.out k
    obtain ⟨l, hll⟩ : ∃ l, LS.getD k ⟨#[]⟩ = l := ⟨_, rfl⟩
    rw [hll] at hc hls
    have HLK : Hid (LS.getD k ⟨#[]⟩ = l) := hll
    clear hll hg
    by_cases hke : k < N
    ·have CX := cH k l true wr (HV.out.below B) (HO.out.below B) (by omega) (Nat.le_trans hls (by decide))
     have hok := iV k l true
     have HST : Hid (psF LS N (k + 1) = if (obS k l true).2 = 0 then (D ++ [(obS k l true).1], 0) else (D, (obS k l true).2)) := eD HPD.out HLK.out (by exact decide_eq_true hke)
     have hki : (k : Int) < (N : Int) := by omega
     clear hke HPD HLK hls
     generalize (obS k l true).1 = X at *
     generalize (obS k l true).2 = cd at *
     change Calls Tryz.prog 50 #[.int .i64 (k : Int), .string l, .bool true] wr (fun e w' => ∃ p c, e = .returned (.tuple #[.agg #[.int .i64 X.k, .int .i64 X.nd, .int .i64 X.tt, .int .i64 X.a, .int .i64 X.b, .string X.tx, .slice p X.n c], .int .i64 cd]) ∧ RwA w' wr.heap.size p X.n c X.f ∧ Below wr.heap.size wr w') at CX
     go_wp2_with fail
     refine CX.mono ?_
     rintro e' v1 ⟨p, c, rfl, RA, hb1⟩
     clear CX hc
     have Q := Bo.new v1 #[.int .i64 0, .int .i64 0, .int .i64 0, .int .i64 0, .int .i64 0, .string ⟨#[]⟩, .slice none 0 0] 26
     have hst : (storeCells ⟨v1.heap.size, 0, none⟩ [.int .i64 X.k, .int .i64 X.nd, .int .i64 X.tt, .int .i64 X.a, .int .i64 X.b, .string X.tx, .slice p X.n c] 0).run Tryz.prog (v1.alloc (.cells #[.int .i64 0, .int .i64 0, .int .i64 0, .int .i64 0, .int .i64 0, .string ⟨#[]⟩, .slice none 0 0] 26)) = .ok () (ac (v1.alloc (.cells #[.int .i64 0, .int .i64 0, .int .i64 0, .int .i64 0, .int .i64 0, .string ⟨#[]⟩, .slice none 0 0] 26)) v1.heap.size 0 [.int .i64 X.k, .int .i64 X.nd, .int .i64 X.tt, .int .i64 X.a, .int .i64 X.b, .string X.tx, .slice p X.n c]) := Bo.store (P := Tryz.prog) (b := 0) [.int .i64 X.k, .int .i64 X.nd, .int .i64 X.tt, .int .i64 X.a, .int .i64 X.b, .string X.tx, .slice p X.n c] 0 0 Q rfl (by simp) (by intro u hu; simp only [List.mem_cons, List.not_mem_nil, or_false] at hu; rcases hu with h | h | h | h | h | h | h <;> (subst h; rfl))
     replace Q : Bo (ac (v1.alloc (.cells #[.int .i64 0, .int .i64 0, .int .i64 0, .int .i64 0, .int .i64 0, .string ⟨#[]⟩, .slice none 0 0] 26)) v1.heap.size 0 [.int .i64 X.k, .int .i64 X.nd, .int .i64 X.tt, .int .i64 X.a, .int .i64 X.b, .string X.tx, .slice p X.n c]) v1.heap.size #[.int .i64 X.k, .int .i64 X.nd, .int .i64 X.tt, .int .i64 X.a, .int .i64 X.b, .string X.tx, .slice p X.n c] := Q.putW (U := #[.int .i64 X.k, .int .i64 X.nd, .int .i64 X.tt, .int .i64 X.a, .int .i64 X.b, .string X.tx, .slice p X.n c]) rfl
     have hb2 := ai (k := v1.heap.size) [.int .i64 X.k, .int .i64 X.nd, .int .i64 X.tt, .int .i64 X.a, .int .i64 X.b, .string X.tx, .slice p X.n c] v1 _ 0 (Below.nw v1 (.cells #[.int .i64 0, .int .i64 0, .int .i64 0, .int .i64 0, .int .i64 0, .string ⟨#[]⟩, .slice none 0 0] 26)) (Nat.le_refl _)

     have HBW : Hid (Below wr.heap.size wr (ac (v1.alloc (.cells #[.int .i64 0, .int .i64 0, .int .i64 0, .int .i64 0, .int .i64 0, .string ⟨#[]⟩, .slice none 0 0] 26)) v1.heap.size 0 [.int .i64 X.k, .int .i64 X.nd, .int .i64 X.tt, .int .i64 X.a, .int .i64 X.b, .string X.tx, .slice p X.n c])) := hb1.trans (hb2.mono hb1.size)
     have RA2 := RA.below hb2
     clear RA hb1
     by_cases hc0 : cd = 0
     ·have hcc : (cd != 0) = false := by simp [hc0]
      have HP2 : Hid (psF LS N (k + 1) = (D ++ [X], 0) ∧ (D ++ [X]).length = k + 1 ∧ k + 1 ≤ 200) := by
       have q : psF LS N (k + 1) = (D ++ [X], 0) := by rw [HST.out, if_pos hc0]
       have q2 := (eb (L := LS) (e := N) (k + 1)).2 (by rw [q])
       rw [q] at q2
       exact ⟨q, q2.1, q2.2⟩
      clear hc0 HST hki
      go_upto_region 14 with (rw [hst])
      clear hst hb2
      generalize ac (v1.alloc (.cells #[.int .i64 0, .int .i64 0, .int .i64 0, .int .i64 0, .int .i64 0, .string ⟨#[]⟩, .slice none 0 0] 26)) v1.heap.size 0 [.int .i64 X.k, .int .i64 X.nd, .int .i64 X.tt, .int .i64 X.a, .int .i64 X.b, .string X.tx, .slice p X.n c] = v2 at *
      generalize v1.heap.size = k8 at *
      have hL := Q.load (P := Tryz.prog) (n := 7) rfl
      have HOO := OR
      go_wp2_with (first | rw [hL] | (at_builtin; refine iK rfl _ _ rfl vL.heap.size (gX D) D.length _ rfl _ X p c rfl HOO HBW.out (Nat.le_trans hok.2 (by decide)) hok.1 RA2.lsr rfl (by omega) BL.size ?_; intro v8 w8 O8 hb8))
      have B8 := (B.trans (HBW.out.mono hlo)).trans (hb8.mono HWL.out)
      have BL8 := (BL.trans (HBW.out.mono BL.size)).trans hb8
      have O9 : bN true w8 vL.heap.size v8 (D ++ [X]).length (gX (D ++ [X])) := by
       rw [← iQ, List.length_append]
       exact O8
      clear O8 hb8 HOO hL Q RA2 HBW OR B BL
      go_wp2_with fail
      go_roundw
      case rel => exact ⟨k + 1, D ++ [X], hlt, by go_num, HP2.out.1, HP2.out.2.1, HP2.out.2.2, O9, B8, BL8⟩
      case measure => simp [intOf]; omega
     ·have hcc : (cd != 0) = true := by simp [hc0]
      have HR : Hid (psS s = (D, cd)) := by
       show psS s = _
       rw [HPS.out]
       exact gb (by rw [HST.out, if_neg hc0]) hc0 hlt
      have O9 := OR.below HBW.out
      have B9 := B.trans (HBW.out.mono hlo)
      clear HST hc0 hki Q RA2 HBW OR B BL
      go_upto_region 13 with (rw [hst])
      clear hst hb2
      generalize ac (v1.alloc (.cells #[.int .i64 0, .int .i64 0, .int .i64 0, .int .i64 0, .int .i64 0, .string ⟨#[]⟩, .slice none 0 0] 26)) v1.heap.size 0 [.int .i64 X.k, .int .i64 X.nd, .int .i64 X.tt, .int .i64 X.a, .int .i64 X.b, .string X.tx, .slice p X.n c] = v2 at *
      go_wp2_with fail
      exact bodyPost_ret (v := .tuple #[.slice a2 D.length cp2, .int .i64 (k : Int), .int .i64 cd]) (by simp [results, Tryz.results17, go_sem]) rfl ⟨_, by rw [HR.out, ← HDL.out], by rw [HR.out]; exact O9.low HWL.out, B9⟩
    ·exact absurd hlt hke
   ·have hkN : k = N := by omega
    have hli : ¬ (k : Int) < (N : Int) := by omega
    have HR : Hid (psS s = (D, 0)) := by
     show psS s = _
     have q := HPD.out
     rw [hkN] at q
     rw [HPS.out]
     exact q
    clear HPD
    go_wp2_with fail
    exact bodyPost_ret (v := .tuple #[.slice a2 D.length cp2, .int .i64 (D.length : Int), .int .i64 0]) (by simp [results, Tryz.results17, go_sem]) rfl ⟨_, by rw [HR.out], by rw [HR.out]; exact OR.low HWL.out, B⟩
 ·have hre := gC hr0
  have hLE : LS = EN ++ [rs] := by rw [HLL.out, if_neg hr0]
  have hN2 : LS.length ≤ 20001 := by (rw [hLE, List.length_append]; show EN.length + 1 ≤ 20001; omega)
  have b7 := Below.nw v1 (.cells (stR [rs]).toArray 9)
  have HM := ce v1 [rs]
  replace OL := ax OL b7
  have hlo2 := Nat.le_trans hlo1 b7.size
  replace B := B.trans (b7.mono B.size)
  change ∀ j u, (stR [rs])[j]? = some u → (v1.alloc (.cells #[.string rs] 9)).cell? ((⟨v1.heap.size, 0, none⟩ : Addr).add j) = some u at HM
  change (v1.alloc (.cells #[.string rs] 9)).ownsRow (w.heap.size + 1) 9 1 _ EN.length (stR EN) at OL
  change w.heap.size + 1 ≤ (v1.alloc (.cells #[.string rs] 9)).heap.size at hlo2
  change Below w.heap.size w (v1.alloc (.cells #[.string rs] 9)) at B
  have HLE : Hid (LS = EN ++ [rs]) := hLE
  have HN2 : Hid (LS.length ≤ 20001) := hN2
  clear b7 HLL hLS hr0 hrs hLE hN2
  have HOL := OL
  go_wp2_with (at_builtin; refine dE rfl _ _ rfl (w.heap.size + 1) EN [rs] _ rfl HOL ⟨v1.heap.size, 0, none⟩ 1 rfl HM (by show EN.length + 1 ≤ 1000000; omega) hlo2 ?_; intro v8 vL O8 hg8)
  have Bg := aT HOL hg8 hlo2
  replace B := B.trans (Bg.mono (Nat.le_succ _))
  have LV : vL.ownsRow (w.heap.size + 1) 9 1 v8 LS.length (stR LS) := by rw [HLE.out]; exact O8
  have hN2 := HN2.out
  clear Bg OL HOL hg8 HM hlo2 O8 HLE hne HN2
  generalize EN.length = e at *
  obtain ⟨a, cp, hv, hcl⟩ := dM LV
  cases hv
  have HCL : Hid (∀ j, j < LS.length → ∃ g, a = some ⟨g, 0, none⟩ ∧ g < vL.heap.size ∧ vL.cell? ⟨g, j, none⟩ = some (.string (LS.getD j ⟨#[]⟩))) := hcl
  clear hcl LV
  have hNI : (LS.length : Int) ≤ 1048576 := by omega
  generalize hNN : LS.length = N at *
  have HNN : Hid (LS.length = N) := hNN
  clear hNN
  have BL0 := Below.refl vL.heap.size vL
  go_wp2_with fail
  (try go_simp)
  (try go_wp2_with fail)
  go_loopw [8, 31] (fun out i wr => ∃ (k : Nat) (D : List OpD), k ≤ N ∧ i = .int .i64 (k : Int) ∧ psF LS e k = (D, 0) ∧ D.length = k ∧ k ≤ 200 ∧ bN true wr vL.heap.size out D.length (gX D) ∧ Below w.heap.size w wr ∧ Below vL.heap.size vL wr) (fun _ i _ => N - (intOf i).toNat)
  case atStart => exact ⟨0, [], Nat.zero_le _, rfl, rfl, rfl, Nat.zero_le _, bN.none true vL vL.heap.size _ (Nat.le_refl _), B, BL0⟩
  case round =>
   have HWL : Hid (w.heap.size ≤ vL.heap.size) := B.size
   clear B BL0
   obtain ⟨k, D, hk, rfl, hpd, hdl, hk2, OR, B, BL⟩ := hrel
   have HPD : Hid (psF LS e k = (D, 0)) := hpd
   have HDL : Hid (D.length = k) := hdl
   have hlo : w.heap.size ≤ wr.heap.size := B.size
   obtain ⟨a2, cp2, rfl, _⟩ := OR.rwp
   have hD4 : D.length ≤ 200 := by omega
   clear hpd hdl
   by_cases hlt : k < N
   ·have hli : (k : Int) < (N : Int) := by omega
    obtain ⟨g, rfl, hg, hc⟩ := HCL.out k hlt
    replace hc := (BL.cell (p := ⟨g, k, none⟩) hg).trans hc
    have hls := HLS.out k
    obtain ⟨l, hll⟩ : ∃ l, LS.getD k ⟨#[]⟩ = l := ⟨_, rfl⟩
    rw [hll] at hc hls
    have HLK : Hid (LS.getD k ⟨#[]⟩ = l) := hll
    clear hll hg
    by_cases hke : k < e
    ·have CX := cH k l true wr (HV.out.below B) (HO.out.below B) (by omega) (Nat.le_trans hls (by decide))
     have hok := iV k l true
     have HST : Hid (psF LS e (k + 1) = if (obS k l true).2 = 0 then (D ++ [(obS k l true).1], 0) else (D, (obS k l true).2)) := eD HPD.out HLK.out (by exact decide_eq_true hke)
     have hki : (k : Int) < (e : Int) := by omega
     clear hke HPD HLK hls
     generalize (obS k l true).1 = X at *
     generalize (obS k l true).2 = cd at *
     change Calls Tryz.prog 50 #[.int .i64 (k : Int), .string l, .bool true] wr (fun e w' => ∃ p c, e = .returned (.tuple #[.agg #[.int .i64 X.k, .int .i64 X.nd, .int .i64 X.tt, .int .i64 X.a, .int .i64 X.b, .string X.tx, .slice p X.n c], .int .i64 cd]) ∧ RwA w' wr.heap.size p X.n c X.f ∧ Below wr.heap.size wr w') at CX
     go_wp2_with fail
     refine CX.mono ?_
     rintro e' v1 ⟨p, c, rfl, RA, hb1⟩
     clear CX hc
     have Q := Bo.new v1 #[.int .i64 0, .int .i64 0, .int .i64 0, .int .i64 0, .int .i64 0, .string ⟨#[]⟩, .slice none 0 0] 26
     have hst : (storeCells ⟨v1.heap.size, 0, none⟩ [.int .i64 X.k, .int .i64 X.nd, .int .i64 X.tt, .int .i64 X.a, .int .i64 X.b, .string X.tx, .slice p X.n c] 0).run Tryz.prog (v1.alloc (.cells #[.int .i64 0, .int .i64 0, .int .i64 0, .int .i64 0, .int .i64 0, .string ⟨#[]⟩, .slice none 0 0] 26)) = .ok () (ac (v1.alloc (.cells #[.int .i64 0, .int .i64 0, .int .i64 0, .int .i64 0, .int .i64 0, .string ⟨#[]⟩, .slice none 0 0] 26)) v1.heap.size 0 [.int .i64 X.k, .int .i64 X.nd, .int .i64 X.tt, .int .i64 X.a, .int .i64 X.b, .string X.tx, .slice p X.n c]) := Bo.store (P := Tryz.prog) (b := 0) [.int .i64 X.k, .int .i64 X.nd, .int .i64 X.tt, .int .i64 X.a, .int .i64 X.b, .string X.tx, .slice p X.n c] 0 0 Q rfl (by simp) (by intro u hu; simp only [List.mem_cons, List.not_mem_nil, or_false] at hu; rcases hu with h | h | h | h | h | h | h <;> (subst h; rfl))
     replace Q : Bo (ac (v1.alloc (.cells #[.int .i64 0, .int .i64 0, .int .i64 0, .int .i64 0, .int .i64 0, .string ⟨#[]⟩, .slice none 0 0] 26)) v1.heap.size 0 [.int .i64 X.k, .int .i64 X.nd, .int .i64 X.tt, .int .i64 X.a, .int .i64 X.b, .string X.tx, .slice p X.n c]) v1.heap.size #[.int .i64 X.k, .int .i64 X.nd, .int .i64 X.tt, .int .i64 X.a, .int .i64 X.b, .string X.tx, .slice p X.n c] := Q.putW (U := #[.int .i64 X.k, .int .i64 X.nd, .int .i64 X.tt, .int .i64 X.a, .int .i64 X.b, .string X.tx, .slice p X.n c]) rfl
     have hb2 := ai (k := v1.heap.size) [.int .i64 X.k, .int .i64 X.nd, .int .i64 X.tt, .int .i64 X.a, .int .i64 X.b, .string X.tx, .slice p X.n c] v1 _ 0 (Below.nw v1 (.cells #[.int .i64 0, .int .i64 0, .int .i64 0, .int .i64 0, .int .i64 0, .string ⟨#[]⟩, .slice none 0 0] 26)) (Nat.le_refl _)

     have HBW : Hid (Below wr.heap.size wr (ac (v1.alloc (.cells #[.int .i64 0, .int .i64 0, .int .i64 0, .int .i64 0, .int .i64 0, .string ⟨#[]⟩, .slice none 0 0] 26)) v1.heap.size 0 [.int .i64 X.k, .int .i64 X.nd, .int .i64 X.tt, .int .i64 X.a, .int .i64 X.b, .string X.tx, .slice p X.n c])) := hb1.trans (hb2.mono hb1.size)
     have RA2 := RA.below hb2
     clear RA hb1
     by_cases hc0 : cd = 0
     ·have hcc : (cd != 0) = false := by simp [hc0]
      have HP2 : Hid (psF LS e (k + 1) = (D ++ [X], 0) ∧ (D ++ [X]).length = k + 1 ∧ k + 1 ≤ 200) := by
       have q : psF LS e (k + 1) = (D ++ [X], 0) := by rw [HST.out, if_pos hc0]
       have q2 := (eb (L := LS) (e := e) (k + 1)).2 (by rw [q])
       rw [q] at q2
       exact ⟨q, q2.1, q2.2⟩
      clear hc0 HST hki
      go_upto_region 14 with (rw [hst])
      clear hst hb2
      generalize ac (v1.alloc (.cells #[.int .i64 0, .int .i64 0, .int .i64 0, .int .i64 0, .int .i64 0, .string ⟨#[]⟩, .slice none 0 0] 26)) v1.heap.size 0 [.int .i64 X.k, .int .i64 X.nd, .int .i64 X.tt, .int .i64 X.a, .int .i64 X.b, .string X.tx, .slice p X.n c] = v2 at *
      generalize v1.heap.size = k8 at *
      have hL := Q.load (P := Tryz.prog) (n := 7) rfl
      have HOO := OR
      go_wp2_with (first | rw [hL] | (at_builtin; refine iK rfl _ _ rfl vL.heap.size (gX D) D.length _ rfl _ X p c rfl HOO HBW.out (Nat.le_trans hok.2 (by decide)) hok.1 RA2.lsr rfl (by omega) BL.size ?_; intro v8 w8 O8 hb8))
      have B8 := (B.trans (HBW.out.mono hlo)).trans (hb8.mono HWL.out)
      have BL8 := (BL.trans (HBW.out.mono BL.size)).trans hb8
      have O9 : bN true w8 vL.heap.size v8 (D ++ [X]).length (gX (D ++ [X])) := by
       rw [← iQ, List.length_append]
       exact O8
      clear O8 hb8 HOO hL Q RA2 HBW OR B BL
      go_wp2_with fail
      go_roundw
      case rel => exact ⟨k + 1, D ++ [X], hlt, by go_num, HP2.out.1, HP2.out.2.1, HP2.out.2.2, O9, B8, BL8⟩
      case measure => simp [intOf]; omega
     ·have hcc : (cd != 0) = true := by simp [hc0]
      have HR : Hid (psS s = (D, cd)) := by
       show psS s = _
       rw [HPS.out]
       exact gb (by rw [HST.out, if_neg hc0]) hc0 hlt
      have O9 := OR.below HBW.out
      have B9 := B.trans (HBW.out.mono hlo)
      clear HST hc0 hki Q RA2 HBW OR B BL
      go_upto_region 13 with (rw [hst])
      clear hst hb2
      generalize ac (v1.alloc (.cells #[.int .i64 0, .int .i64 0, .int .i64 0, .int .i64 0, .int .i64 0, .string ⟨#[]⟩, .slice none 0 0] 26)) v1.heap.size 0 [.int .i64 X.k, .int .i64 X.nd, .int .i64 X.tt, .int .i64 X.a, .int .i64 X.b, .string X.tx, .slice p X.n c] = v2 at *
      go_wp2_with fail
      exact bodyPost_ret (v := .tuple #[.slice a2 D.length cp2, .int .i64 (k : Int), .int .i64 cd]) (by simp [results, Tryz.results17, go_sem]) rfl ⟨_, by rw [HR.out, ← HDL.out], by rw [HR.out]; exact O9.low HWL.out, B9⟩
    ·have CX := cH k l false wr (HV.out.below B) (HO.out.below B) (by omega) (Nat.le_trans hls (by decide))
     have hok := iV k l false
     have HST : Hid (psF LS e (k + 1) = if (obS k l false).2 = 0 then (D ++ [(obS k l false).1], 0) else (D, (obS k l false).2)) := eD HPD.out HLK.out (by exact decide_eq_false hke)
     have hki : ¬ (k : Int) < (e : Int) := by omega
     clear hke HPD HLK hls
     generalize (obS k l false).1 = X at *
     generalize (obS k l false).2 = cd at *
     change Calls Tryz.prog 50 #[.int .i64 (k : Int), .string l, .bool false] wr (fun e w' => ∃ p c, e = .returned (.tuple #[.agg #[.int .i64 X.k, .int .i64 X.nd, .int .i64 X.tt, .int .i64 X.a, .int .i64 X.b, .string X.tx, .slice p X.n c], .int .i64 cd]) ∧ RwA w' wr.heap.size p X.n c X.f ∧ Below wr.heap.size wr w') at CX
     go_wp2_with fail
     refine CX.mono ?_
     rintro e' v1 ⟨p, c, rfl, RA, hb1⟩
     clear CX hc
     have Q := Bo.new v1 #[.int .i64 0, .int .i64 0, .int .i64 0, .int .i64 0, .int .i64 0, .string ⟨#[]⟩, .slice none 0 0] 26
     have hst : (storeCells ⟨v1.heap.size, 0, none⟩ [.int .i64 X.k, .int .i64 X.nd, .int .i64 X.tt, .int .i64 X.a, .int .i64 X.b, .string X.tx, .slice p X.n c] 0).run Tryz.prog (v1.alloc (.cells #[.int .i64 0, .int .i64 0, .int .i64 0, .int .i64 0, .int .i64 0, .string ⟨#[]⟩, .slice none 0 0] 26)) = .ok () (ac (v1.alloc (.cells #[.int .i64 0, .int .i64 0, .int .i64 0, .int .i64 0, .int .i64 0, .string ⟨#[]⟩, .slice none 0 0] 26)) v1.heap.size 0 [.int .i64 X.k, .int .i64 X.nd, .int .i64 X.tt, .int .i64 X.a, .int .i64 X.b, .string X.tx, .slice p X.n c]) := Bo.store (P := Tryz.prog) (b := 0) [.int .i64 X.k, .int .i64 X.nd, .int .i64 X.tt, .int .i64 X.a, .int .i64 X.b, .string X.tx, .slice p X.n c] 0 0 Q rfl (by simp) (by intro u hu; simp only [List.mem_cons, List.not_mem_nil, or_false] at hu; rcases hu with h | h | h | h | h | h | h <;> (subst h; rfl))
     replace Q : Bo (ac (v1.alloc (.cells #[.int .i64 0, .int .i64 0, .int .i64 0, .int .i64 0, .int .i64 0, .string ⟨#[]⟩, .slice none 0 0] 26)) v1.heap.size 0 [.int .i64 X.k, .int .i64 X.nd, .int .i64 X.tt, .int .i64 X.a, .int .i64 X.b, .string X.tx, .slice p X.n c]) v1.heap.size #[.int .i64 X.k, .int .i64 X.nd, .int .i64 X.tt, .int .i64 X.a, .int .i64 X.b, .string X.tx, .slice p X.n c] := Q.putW (U := #[.int .i64 X.k, .int .i64 X.nd, .int .i64 X.tt, .int .i64 X.a, .int .i64 X.b, .string X.tx, .slice p X.n c]) rfl
     have hb2 := ai (k := v1.heap.size) [.int .i64 X.k, .int .i64 X.nd, .int .i64 X.tt, .int .i64 X.a, .int .i64 X.b, .string X.tx, .slice p X.n c] v1 _ 0 (Below.nw v1 (.cells #[.int .i64 0, .int .i64 0, .int .i64 0, .int .i64 0, .int .i64 0, .string ⟨#[]⟩, .slice none 0 0] 26)) (Nat.le_refl _)

     have HBW : Hid (Below wr.heap.size wr (ac (v1.alloc (.cells #[.int .i64 0, .int .i64 0, .int .i64 0, .int .i64 0, .int .i64 0, .string ⟨#[]⟩, .slice none 0 0] 26)) v1.heap.size 0 [.int .i64 X.k, .int .i64 X.nd, .int .i64 X.tt, .int .i64 X.a, .int .i64 X.b, .string X.tx, .slice p X.n c])) := hb1.trans (hb2.mono hb1.size)
     have RA2 := RA.below hb2
     clear RA hb1
     by_cases hc0 : cd = 0
     ·have hcc : (cd != 0) = false := by simp [hc0]
      have HP2 : Hid (psF LS e (k + 1) = (D ++ [X], 0) ∧ (D ++ [X]).length = k + 1 ∧ k + 1 ≤ 200) := by
       have q : psF LS e (k + 1) = (D ++ [X], 0) := by rw [HST.out, if_pos hc0]
       have q2 := (eb (L := LS) (e := e) (k + 1)).2 (by rw [q])
       rw [q] at q2
       exact ⟨q, q2.1, q2.2⟩
      clear hc0 HST hki
      go_upto_region 14 with (rw [hst])
      clear hst hb2
      generalize ac (v1.alloc (.cells #[.int .i64 0, .int .i64 0, .int .i64 0, .int .i64 0, .int .i64 0, .string ⟨#[]⟩, .slice none 0 0] 26)) v1.heap.size 0 [.int .i64 X.k, .int .i64 X.nd, .int .i64 X.tt, .int .i64 X.a, .int .i64 X.b, .string X.tx, .slice p X.n c] = v2 at *
      generalize v1.heap.size = k8 at *
      have hL := Q.load (P := Tryz.prog) (n := 7) rfl
      have HOO := OR
      go_wp2_with (first | rw [hL] | (at_builtin; refine iK rfl _ _ rfl vL.heap.size (gX D) D.length _ rfl _ X p c rfl HOO HBW.out (Nat.le_trans hok.2 (by decide)) hok.1 RA2.lsr rfl (by omega) BL.size ?_; intro v8 w8 O8 hb8))
      have B8 := (B.trans (HBW.out.mono hlo)).trans (hb8.mono HWL.out)
      have BL8 := (BL.trans (HBW.out.mono BL.size)).trans hb8
      have O9 : bN true w8 vL.heap.size v8 (D ++ [X]).length (gX (D ++ [X])) := by
       rw [← iQ, List.length_append]
       exact O8
      clear O8 hb8 HOO hL Q RA2 HBW OR B BL
      go_wp2_with fail
      go_roundw
      case rel => exact ⟨k + 1, D ++ [X], hlt, by go_num, HP2.out.1, HP2.out.2.1, HP2.out.2.2, O9, B8, BL8⟩
      case measure => simp [intOf]; omega
     ·have hcc : (cd != 0) = true := by simp [hc0]
      have HR : Hid (psS s = (D, cd)) := by
       show psS s = _
       rw [HPS.out]
       exact gb (by rw [HST.out, if_neg hc0]) hc0 hlt
      have O9 := OR.below HBW.out
      have B9 := B.trans (HBW.out.mono hlo)
      clear HST hc0 hki Q RA2 HBW OR B BL
      go_upto_region 13 with (rw [hst])
      clear hst hb2
      generalize ac (v1.alloc (.cells #[.int .i64 0, .int .i64 0, .int .i64 0, .int .i64 0, .int .i64 0, .string ⟨#[]⟩, .slice none 0 0] 26)) v1.heap.size 0 [.int .i64 X.k, .int .i64 X.nd, .int .i64 X.tt, .int .i64 X.a, .int .i64 X.b, .string X.tx, .slice p X.n c] = v2 at *
      go_wp2_with fail
      exact bodyPost_ret (v := .tuple #[.slice a2 D.length cp2, .int .i64 (k : Int), .int .i64 cd]) (by simp [results, Tryz.results17, go_sem]) rfl ⟨_, by rw [HR.out, ← HDL.out], by rw [HR.out]; exact O9.low HWL.out, B9⟩
   ·have hkN : k = N := by omega
    have hli : ¬ (k : Int) < (N : Int) := by omega
    have HR : Hid (psS s = (D, 0)) := by
     show psS s = _
     have q := HPD.out
     rw [hkN] at q
     rw [HPS.out]
     exact q
    clear HPD
    go_wp2_with fail
    exact bodyPost_ret (v := .tuple #[.slice a2 D.length cp2, .int .i64 (D.length : Int), .int .i64 0]) (by simp [results, Tryz.results17, go_sem]) rfl ⟨_, by rw [HR.out], by rw [HR.out]; exact OR.low HWL.out, B⟩
theorem dI (s : ByteArray) (w : World) (EV : VN w) (EO : OpW w) (hm : s.size ≤ maxLen) :
 Calls Tryz.prog 17 #[.string s] w fun e w' => ∃ v, e = .returned (.tuple #[v, .int .i64 ((psS s).1.length : Int), .int .i64 (psS s).2]) ∧ bN true w' w.heap.size v (psS s).1.length (gX (psS s).1) ∧ Below w.heap.size w w' := by
 by_cases h : s.size ≤ 20000
 ·exact dJ s w EV EO h
 ·exact dt s w hm (by omega)

end Go.Proofs.YtddjiamollfplaaGreatDoor
