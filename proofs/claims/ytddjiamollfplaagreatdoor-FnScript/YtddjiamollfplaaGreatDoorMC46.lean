/- What the draws leave: times, intervals, the new cursor. A drawn line. A drawn script. FnScript: the walk. -/
import Derived.Test.YtddjiamollfplaaGreatDoorMC0
import Derived.Test.YtddjiamollfplaaGreatDoorMC41
import Derived.Test.YtddjiamollfplaaGreatDoorMC43
import Derived.Test.YtddjiamollfplaaGreatDoorMC44
import Derived.Test.YtddjiamollfplaaGreatDoorMC45
namespace Go.Proofs.YtddjiamollfplaaGreatDoor
open Go.RowKit
set_option linter.unusedVariables false
theorem ky (w : World) (a : Option Addr) (n c : Nat) (h : Int) (T : TypeId) (hn : n ≤ 1048576) (hcode : bX w w.heap.size a n) : aq (w.alloc (.cells #[.slice a n c, .int .i64 0, .int .i64 h] T)) w.heap.size w.heap.size :=
 ⟨a, n, c, 0, h, by simp, by simp, by simp, by simp, by simp, by simp, Nat.zero_le _, hn, hcode.below ((Below.refl _ _).alloc (Nat.le_refl _) _), Nat.le_refl _, by simp⟩
set_option maxHeartbeats 1000000 in
theorem j7 (a : Option Addr) (n c : Nat) (w : World) (hn : n ≤ 1048576) (hcode : bX w w.heap.size a n) :
 Calls Tryz.prog 20 #[.slice a n c] w fun e w' => ∃ p, e = .returned (.pointer (some ⟨p, 0, none⟩)) ∧ aq w' w.heap.size p ∧ Below w.heap.size w w' := by
 have HC : Hid (bX w w.heap.size a n) := hcode
 clear hcode
 go_enter Tryz.func20, Tryz.ntmps20
 go_wp2_with fail
 go_loop [3, 4] (fun hv i => ∃ k : Nat, ∃ h : Int, k ≤ n ∧ i = .int .i64 k ∧ hv = .int .i64 h) (fun _ i => n - (intOf i).toNat)
 case atStart => exact ⟨0, _, Nat.zero_le _, rfl, rfl⟩
 case round =>
  obtain ⟨k, h, hk, rfl, rfl⟩ := hrel
  by_cases hlt : k < n
  ·have hli : (k : Int) < (n : Int) := by omega
   by_cases h4 : (k : Int) < 4000
   ·rcases HC.out with h0 | ⟨b, off, rfl, hb, hz⟩
    ·omega
    ·obtain ⟨z, hz, z0, z1⟩ := hz k hlt
     go_wp2_with fail
     go_round
     case rel => exact ⟨k + 1, _, by omega, by go_num, rfl⟩
     case measure => simp [intOf]; omega
   ·have hd : decide ((k : Int) < 4000) = false := by simp; omega
    go_wp2_with fail
    go_ret
    exact ⟨_, rfl, ky _ _ _ _ _ _ hn HC.out, (Below.refl _ _).alloc (Nat.le_refl _) _⟩
  ·have hd : decide ((k : Int) < (n : Int)) = false := by simp; omega
   go_wp2_with fail
   go_ret
   exact ⟨_, rfl, ky _ _ _ _ _ _ hn HC.out, (Below.refl _ _).alloc (Nat.le_refl _) _⟩
end Go.Proofs.YtddjiamollfplaaGreatDoor
namespace Go.Proofs.YtddjiamollfplaaGreatDoor
open Go.RowKit
set_option linter.unusedVariables false

def StB (w : World) (g : Nat) : Prop := g < w.heap.size ∧ ∀ j, j < 11 → ∃ s : ByteArray, s.size ≤ 10 ∧ w.cell? ⟨g, j, none⟩ = some (.string s)
theorem StB.but {w w' : World} {g p : Nat} (h : StB w g) (hb : But p w w') (hp : g ≠ p) : StB w' g := ⟨Nat.lt_of_lt_of_le h.1 hb.2.2.2.1, fun j hj => by
 obtain ⟨s, h1, h2⟩ := h.2 j hj
 exact ⟨s, h1, by rw [hb.cell h.1 hp]; exact h2⟩⟩
theorem aW.below {base p B : Nat} {w w' : World} (h : aW base p w w') (h1 : B ≤ base) (h2 : B ≤ p) : Below B w w' := ⟨h.1, h.2.1, h.2.2.1, h.2.2.2.1, fun q hq => h.2.2.2.2 q (by omega) (by omega)⟩
end Go.Proofs.YtddjiamollfplaaGreatDoor
namespace Go.Proofs.YtddjiamollfplaaGreatDoor
open Go.RowKit
set_option linter.unusedVariables false

theorem fW (a : Option Addr) (n c : Nat) (w : World) (hn : n ≤ 1048576) :
 Calls Tryz.prog 42 #[.slice a n c, .int .i64 20] w fun e w' => ∃ x : Nat, e = .returned (.int .i64 (x : Int)) ∧ x ≤ 20 ∧ w = w' := by
 have hq : Int.tdiv (n : Int) 20 = (n : Int) / 20 := Int.tdiv_eq_ediv_of_nonneg (by omega)
 have q0 : 0 ≤ (n : Int) / 20 := by omega
 have q1 : (n : Int) / 20 ≤ 1048576 := by omega
 by_cases h : (20 : Int) < 2 + (n : Int) / 20
 ·go_enter Tryz.func42, Tryz.ntmps42
  go_wp2_with fail
  go_ret
  exact ⟨20, rfl, by omega, rfl⟩
 ·have hx : 2 + (n : Int) / 20 ≤ 20 := by omega
  obtain ⟨x, hx2⟩ := Int.eq_ofNat_of_zero_le (show 0 ≤ 2 + (n : Int) / 20 by omega)
  go_enter Tryz.func42, Tryz.ntmps42
  go_wp2_with fail
  go_ret
  exact ⟨x, by rw [← hx2]; rfl, by omega, rfl⟩
attribute [-go_sem] loadCells storeCells in
set_option maxRecDepth 100000 in
set_option maxHeartbeats 16000000 in
theorem dd (a : Option Addr) (n c : Nat) (w : World) (hn : n ≤ 1048576) (hcode : bX w w.heap.size a n) :
 Calls Tryz.prog 14 #[.slice a n c] w fun e w' => ∃ (v : Value) (m : Nat) (XM : Nat → OpD), e = .returned v ∧ m ≤ 202 ∧ bD w' w.heap.size w'.heap.size v m XM ∧ Below w.heap.size w w' := by
 go_enter Tryz.func14, Tryz.ntmps14
 go_wp2_with fail
 refine (j7 a n c _ hn hcode).mono ?_
 rintro e w1 ⟨p, rfl, hc, hb⟩
 obtain ⟨hp, hB⟩ := hc.lt
 go_wp2_with fail
 refine (fW a n c w1 hn).mono ?_
 rintro e w' ⟨x, rfl, hx, rfl⟩
 go_wp2_with fail
 refine (eu w.heap.size p x (by omega) w1 hc).mono ?_
 rintro e w2 ⟨v, r, XM, rfl, hr, O, C, N⟩
 clear hc
 go_wp2_with fail
 refine (aB w.heap.size p 6 w2 C).mono ?_
 rintro e w3 ⟨bo, rfl, cc, bb⟩
 replace O := O.but bb hp
 replace N := N.trans (bb.belP N.2.2.2.1)
 have hT : w2.heap.size ≤ w3.heap.size := bb.2.2.2.1
 have hbt : w1.heap.size ≤ w3.heap.size := N.2.2.2.1
 replace O := O.top hT (Nat.le_refl _)
 clear C bb hT w2
 cases bo
 ·go_wp2_with fail
  go_ret
  exact ⟨_, r, XM, rfl, by omega, O.low hb.size, hb.trans (N.below hb.size hB)⟩
 ·go_wp2_with fail
  refine (fd w.heap.size p w3 cc).mono ?_
  rintro e w4 ⟨k, nd, tt, a2, b2, tx, P, L, c2, rfl, htx, hm, OW, C4, bb⟩
  replace O := O.but bb.but hp
  replace N := N.trans (bb.low hbt)
  clear cc C4 bb
  have LS : LsZ w4 w3.heap.size w4.heap.size P c2 (⟨k, nd, tt, a2, b2, tx, L.length, gI L⟩ : OpD).n (⟨k, nd, tt, a2, b2, tx, L.length, gI L⟩ : OpD).f := f8 OW (fun q hq => (World.ownsRow.lt OW q hq).2)
  go_wp2_with (at_builtin; refine cF rfl _ _ rfl w1.heap.size w3.heap.size w4.heap.size XM r v (by rfl) _ ⟨k, nd, tt, a2, b2, tx, L.length, gI L⟩ P c2 rfl O (Nat.le_trans htx (by decide)) hm LS (Nat.le_refl _) rfl (by omega) hbt ?_; intro v8 w8 O8 hb8)
  have N8 := N.trans (au hb8 (Nat.le_refl _))
  clear O N hb8 LS OW
  (try go_wp2_with fail)
  (try go_ret)
  exact ⟨_, r + 1, _, rfl, by omega, O8.low hb.size, hb.trans (N8.below hb.size hB)⟩

end Go.Proofs.YtddjiamollfplaaGreatDoor
namespace Go.Proofs.YtddjiamollfplaaGreatDoor
open Go.RowKit
set_option linter.unusedVariables false

theorem kh {XM : Nat → OpD} {n : Nat} (h : scB XM n = true) : n ≤ 200 ∧ (∀ i, i < n → oB (XM i) = true) ∧ (scL XM n).size ≤ 20000 := by
 unfold scB at h
 simp only [Bool.and_eq_true, decide_eq_true_eq, List.all_eq_true, List.mem_range] at h
 exact ⟨h.1, h.2.1, h.2.2⟩
theorem cZ (A A' : Array Value) (X Y : OpD) (w : World) (h : cA X Y) (hX : OdW w A X) (hY : OdW w A' Y) :
 Calls Tryz.prog 10 #[.agg A, .agg A'] w fun e w' => e = .returned (.bool true) ∧ Below w.heap.size w w' := by
 obtain ⟨p, c, rfl, q1, q2⟩ := hX
 obtain ⟨p', c', rfl, r1, r2⟩ := hY
 exact lB h p p' c c' w q1.2 q2 r2
theorem bL {Q : World → Array Value → OpD → Prop} {w : World} {a : Option Addr} {n : Nat} {XM : Nat → OpD} (h : RwP Q w a n XM) (hn : n ≠ 0) : ∃ b off AM, a = some ⟨b, off, none⟩ ∧ CsP w b off n AM ∧ ∀ i, i < n → Q w (AM i) (XM i) := by
 rcases h with h | h
 ·exact absurd h hn
 ·exact h
attribute [-go_sem] loadCells storeCells in
set_option maxRecDepth 100000 in
set_option maxHeartbeats 16000000 in
theorem ji (a0 : Option Addr) (n0 c0 : Nat) (w : World) (E0 : T10 w ∧ ErC w 3 ∧ ErC w 2 ∧ OpW w) (hcode : bX w w.heap.size a0 n0) :
 Calls Tryz.prog 4 #[.slice a0 n0 c0] w fun e w' => e = .returned (.bool true) ∧ Below w.heap.size w w' := by
 have HE : Hid (T10 w ∧ ErC w 3 ∧ ErC w 2 ∧ OpW w) := E0
 clear E0
 by_cases hbig : (1048576 : Int) < (n0 : Int)
 ·go_enter Tryz.func4, Tryz.ntmps4
  go_wp2_with fail
  refine (jp _ _ _ _).mono ?_
  rintro e w' ⟨rfl, rfl⟩
  go_wp2_with fail
  go_ret
  exact ⟨rfl, Below.refl _ _⟩
 have hd : decide ((1048576 : Int) < (n0 : Int)) = false := by simp; omega
 have hn0 : n0 ≤ 1048576 := by omega
 have HC : Hid (bX w w.heap.size a0 n0) := hcode
 clear hcode hbig
 go_enter Tryz.func4, Tryz.ntmps4
 go_wp2_with fail
 refine (jp _ _ _ _).mono ?_
 rintro e w' ⟨rfl, rfl⟩
 go_wp2_with fail
 refine (dd a0 n0 c0 _ hn0 HC.out).mono ?_
 rintro e v1 ⟨vl, n, XM, rfl, hn2, OZ, B⟩
 obtain ⟨la, lc, rfl, RL⟩ := OZ.rwp
 clear OZ
 have hmx : n ≤ maxLen := Nat.le_trans hn2 (by decide)
 go_wp2_with fail
 refine (eo la n lc XM v1 ⟨HE.out.1.below B, HE.out.2.2.2.below B⟩ hmx RL).mono ?_
 rintro e v2 ⟨rfl, hb⟩
 replace B := B.trans (hb.mono B.size)
 replace RL := RL.belowS hb
 clear hb
 go_wp2_with fail
 refine (eL la n lc XM v2 hmx RL).mono ?_
 rintro e v3 ⟨rfl, hb⟩
 replace B := B.trans (hb.mono B.size)
 replace RL := RL.belowS hb
 clear hb
 by_cases hsb : scB XM n = true
 ·obtain ⟨hn200, ho, hs⟩ := kh hsb
  rw [jS hsb, hsb]
  have HSM : Hid (∀ i, i < n → cA (paS (oL (XM i))).1 (XM i)) := fun i hi => (jK (ho i hi)).2
  have HCUT : Hid (∀ cut, cut ≤ (scL XM n).size → (av (scL XM n) 10 cut).2.length ≤ n ∧ ∃ c, psS ((scL XM n).extract 0 cut) = (bkD XM (av (scL XM n) 10 cut).2.length, c) ∧ (c = 0 ↔ (av (scL XM n) 10 cut).1 = cut)) := fun cut hc => lD hn200 ho hs cut hc
  have CP : ∀ (t : ByteArray) (v : World), Below w.heap.size w v → t.size ≤ maxLen → Calls Tryz.prog 17 #[.string t] v fun e w' => ∃ v2, e = .returned (.tuple #[v2, .int .i64 ((psS t).1.length : Int), .int .i64 (psS t).2]) ∧ bN true w' v.heap.size v2 (psS t).1.length (gX (psS t).1) ∧ Below v.heap.size v w' := fun t v h ht => dI t v ⟨HE.out.1.below h, HE.out.2.1.below h, HE.out.2.2.1.below h⟩ (HE.out.2.2.2.below h) ht
  have CP1 : Calls Tryz.prog 17 #[.string (scL XM n)] v3 fun e w' => ∃ v2, e = .returned (.tuple #[v2, .int .i64 (n : Int), .int .i64 0]) ∧ bN true w' v3.heap.size v2 n (gX (bkD XM n)) ∧ Below v3.heap.size v3 w' := by
   have q := CP (scL XM n) v3 B (Nat.le_trans hs (by decide))
   rw [lE hn200 ho hs] at q
   simp only [jq] at q
   exact q
  generalize scL XM n = s at *
  clear ho hsb
  go_wp2_with fail
  refine CP1.mono ?_
  rintro e v4 ⟨vb, rfl, OB, hb⟩
  obtain ⟨ba, bc, rfl, RB⟩ := OB.rwp
  clear CP1 OB
  replace B := B.trans (hb.mono B.size)
  replace RL := RL.belowS hb
  clear hb
  have hnn : ((n : Int) != (n : Int)) = false := by simp
  have HCv : bX v4 v4.heap.size a0 n0 := (HC.out.below B).more B.size
  go_wp2_with fail
  refine (mI a0 n0 c0 1 v4.heap.size v4 hn0 (by omega) HCv).mono ?_
  rintro e w' ⟨x, rfl, x0, x1, rfl⟩
  clear HCv
  have hw1 : IntKind.i64.wrap (x * 13) = x * 13 := Go.IntWalk.i64_in _ ⟨by omega, by omega⟩
  have hw2 : IntKind.i64.wrap ((s.size : Int) + 1) = (s.size : Int) + 1 := Go.IntWalk.i64_in _ ⟨by omega, by omega⟩
  have hnz : ¬ ((s.size : Int) + 1 = 0) := by omega
  obtain ⟨cut, hcut, hcl⟩ : ∃ cut : Nat, (x * 13).tmod ((s.size : Int) + 1) = (cut : Int) ∧ cut ≤ s.size := by
   have e := Int.tmod_eq_emod_of_nonneg (b := (s.size : Int) + 1) (show 0 ≤ x * 13 by omega)
   have e1 := Int.emod_nonneg (x * 13) (b := (s.size : Int) + 1) (by omega)
   have e2 := Int.emod_lt_of_pos (x * 13) (b := (s.size : Int) + 1) (by omega)
   exact ⟨((x * 13).tmod ((s.size : Int) + 1)).toNat, by omega, by omega⟩
  go_upto_region 14 with (rw [hcut])
  clear hw1 hw2 hnz hcut x0 x1
  go_wp2_with fail
  go_loopw [12, 13] (fun ln i wr => ∃ j : Nat, j ≤ cut ∧ i = .int .i64 (j : Int) ∧ ln = .int .i64 ((av s 10 j).2.length : Int) ∧ v4 = wr) (fun _ i _ => cut - (intOf i).toNat)
  case atStart => exact ⟨0, Nat.zero_le _, rfl, rfl, by first | rfl | trivial⟩
  case round =>
   obtain ⟨j, hj, rfl, rfl, rfl⟩ := hrel
   by_cases hlt : j < cut
   ·have hli : (j : Int) < (cut : Int) := by omega
    have hix := cJ s j (by omega) v4
    have hjl := (cv s 10 j).2
    have hwl : IntKind.i64.wrap (((av s 10 j).2.length : Int) + 1) = ((av s 10 j).2.length : Int) + 1 := Go.IntWalk.i64_in _ ⟨by omega, by omega⟩
    by_cases hb10 : bt s j = 10
    ·have hbq : (bt s j == 10) = true := by simp [hb10]
     have HL : Hid (((av s 10 (j + 1)).2.length : Int) = ((av s 10 j).2.length : Int) + 1) := by
      show ((av s 10 (j + 1)).2.length : Int) = _
      rw [bH hb10]
      simp
     clear hb10
     generalize bt s j = bq at *
     go_wp2_with (rw [hix])
     go_roundw
     case rel => exact ⟨j + 1, by omega, by go_num, by rw [HL.out], by first | rfl | trivial⟩
     case measure => simp [intOf]; omega
    ·have hbq : (bt s j == 10) = false := by simp [hb10]
     have HL : Hid ((av s 10 (j + 1)).2.length = (av s 10 j).2.length) := by
      show (av s 10 (j + 1)).2.length = _
      rw [cx hb10]
     clear hb10
     generalize bt s j = bq at *
     go_wp2_with (rw [hix])
     go_roundw
     case rel => exact ⟨j + 1, by omega, by go_num, by rw [HL.out], by first | rfl | trivial⟩
     case measure => simp [intOf]; omega
   ·obtain rfl : cut = j := by omega
    have hli : ¬ (cut : Int) < (cut : Int) := by omega
    obtain ⟨hmn, c, hps, hc0⟩ := HCUT.out cut hcl
    have CP2 : Calls Tryz.prog 17 #[.string (s.extract 0 cut)] v4 fun e w' => ∃ v2, e = .returned (.tuple #[v2, .int .i64 ((av s 10 cut).2.length : Int), .int .i64 c]) ∧ bN true w' v4.heap.size v2 (av s 10 cut).2.length (gX (bkD XM (av s 10 cut).2.length)) ∧ Below v4.heap.size v4 w' := by
     have q := CP (s.extract 0 cut) v4 B (by rw [ByteArray.size_extract]; unfold maxLen; omega)
     rw [hps] at q
     simp only [jq] at q
     exact q
    have HF : Hid (c = 0 ↔ (av s 10 cut).1 = cut) := hc0
    clear hps hc0
    generalize (av s 10 cut).2.length = m at *
    have hmm : ((m : Int) != (m : Int)) = false := by simp
    have hcl2 : (cut : Int) ≤ (s.size : Int) := by omega
    have hcl0 : (0 : Int) ≤ (cut : Int) := by omega
    go_wp2_with fail
    refine CP2.mono ?_
    rintro e v5 ⟨vs, rfl, OS, hb⟩
    obtain ⟨sa, sc, rfl, RS⟩ := OS.rwp
    clear CP2 OS
    replace B := B.trans (hb.mono B.size)
    replace RL := RL.belowS hb
    replace RB := RB.belowW hb
    clear hb
    by_cases h0 : cut = 0
    ·have hcz : c = 0 := HF.out.2 (by rw [h0]; rfl)
     subst hcz h0
     clear HF
     go_wp2_with fail
     go_loopw [17] (fun i wr => ∃ r : Nat, r ≤ n ∧ i = .int .i64 (r : Int) ∧ Below w.heap.size w wr ∧ RwP OdS wr la n XM ∧ RwP OdW wr ba n (gX (bkD XM n)) ∧ RwP OdW wr sa m (gX (bkD XM m))) (fun i _ => n - (intOf i).toNat)
     case atStart => exact ⟨0, Nat.zero_le _, rfl, B, RL, RB, RS⟩
     case round =>
      clear B RL RB RS
      obtain ⟨r, hr, rfl, B, RL, RB, RS⟩ := hrel
      by_cases hlt : r < n
      ·have hli : (r : Int) < (n : Int) := by omega
       obtain ⟨lb, lo, AL0, hla, CL, QL⟩ := bL RL (by omega)
       obtain ⟨bb, bo, AB0, hba, CB, QB⟩ := bL RB (by omega)
       have qL := QL r hlt
       have qB := QB r hlt
       have hsm : cA (gX (bkD XM n) r) (XM r) := by rw [dG XM hlt]; exact HSM.out r hlt
       have CE1 := fun (v : World) (h : Below wr.heap.size wr v) => cZ (AB0 r) (AL0 r) _ _ v hsm (qB.below h) (qL.below h).weak
       subst hla hba
       by_cases hm3 : r < m
       ·have hli3 : (r : Int) < (m : Int) := by omega
        obtain ⟨sb, so, AS0, hsa, CS3, QS⟩ := bL RS (by omega)
        have qS := QS r hm3
        have hsm3 : cA (gX (bkD XM m) r) (XM r) := by rw [dG XM hm3]; exact HSM.out r hlt
        have CE2 := fun (v : World) (h : Below wr.heap.size wr v) => cZ (AS0 r) (AL0 r) _ _ v hsm3 (qS.below h) (qL.below h).weak
        subst hsa
        have SK : Hid (∀ w', Below wr.heap.size wr w' → (loadCells ⟨bb, bo + r * 7, none⟩ 7).run Tryz.prog w' = .ok (AB0 r) w' ∧ (loadCells ⟨lb, lo + r * 7, none⟩ 7).run Tryz.prog w' = .ok (AL0 r) w' ∧ (loadCells ⟨sb, so + r * 7, none⟩ 7).run Tryz.prog w' = .ok (AS0 r) w') := fun w' hw => ⟨(CB.below hw).load (P := Tryz.prog) hlt qB.size, (CL.below hw).load (P := Tryz.prog) hlt qL.size, (CS3.below hw).load (P := Tryz.prog) hm3 qS.size⟩
        generalize AB0 r = AB at *
        generalize AL0 r = AL at *
        generalize AS0 r = AS at *
        clear qL qB qS hsm hsm3 CL CB CS3 QL QB QS
        go_wp2_with fail
        refine wp_region_held_drew (S := (fun w' => (loadCells ⟨bb, bo + r * 7, none⟩ 7).run Tryz.prog w' = .ok AB w' ∧ (loadCells ⟨lb, lo + r * 7, none⟩ 7).run Tryz.prog w' = .ok AL w' ∧ (loadCells ⟨sb, so + r * 7, none⟩ 7).run Tryz.prog w' = .ok AS w')) (by kernel_rfl) ?_ (fun hHeld => ?_)
        ·first | exact SK.out _ XB | exact SK.out _ zD
        have XB : Below wr.heap.size wr wr.drew := Below.drew (Below.refl _ _)
        generalize wr.drew = vx at *
        refine zT8 0 ?_
        refine zQ 8 fun K hK => ?_
        go_simp
        refine (CE1 _ (XB)).mono ?_; rintro ee vx ⟨rfl, hbl⟩; (replace XB := XB.trans (hbl.mono XB.size)); (clear hbl)
        (try go_wp2_with fail)
        refine hK.out _ _ ?_ (fun hHeld => ?_)
        ·first | exact SK.out _ XB | exact SK.out _ zD
        clear hK K
        (try simp only [zA])
        refine zT8 9 ?_
        refine zT4 17 ?_
        refine zT2 21 ?_
        refine zQ 23 fun K hK => ?_
        go_simp
        refine (CE2 _ (XB)).mono ?_; rintro ee vx ⟨rfl, hbl⟩; (replace XB := XB.trans (hbl.mono XB.size)); (clear hbl)
        (try go_wp2_with fail)
        refine hK.out _ _ ?_ (fun hHeld => ?_)
        ·first | exact SK.out _ XB | exact SK.out _ zD
        clear hK K
        (try simp only [zA])
        refine zT2 24 ?_
        refine zTk 26 ?_
        refine wpAnyH_done (by kernel_rfl) ?_ _
        have B2 := B.trans (XB.mono B.size)
        have R2 : RwP OdS vx _ n XM ∧ RwP OdW vx _ n (gX (bkD XM n)) ∧ RwP OdW vx _ m (gX (bkD XM m)) := ⟨RL.belowS XB, RB.belowW XB, RS.belowW XB⟩
        clear SK XB CE1 RL RB RS B
        (try clear CE2)
        go_wp2_with fail
        go_roundw
        case rel => exact ⟨r + 1, by omega, by go_num, B2, R2.1, R2.2.1, R2.2.2⟩
        case measure => simp [intOf]; omega
       ·have hli3 : ¬ (r : Int) < (m : Int) := by omega
        have SK : Hid (∀ w', Below wr.heap.size wr w' → (loadCells ⟨bb, bo + r * 7, none⟩ 7).run Tryz.prog w' = .ok (AB0 r) w' ∧ (loadCells ⟨lb, lo + r * 7, none⟩ 7).run Tryz.prog w' = .ok (AL0 r) w') := fun w' hw => ⟨(CB.below hw).load (P := Tryz.prog) hlt qB.size, (CL.below hw).load (P := Tryz.prog) hlt qL.size⟩
        generalize AB0 r = AB at *
        generalize AL0 r = AL at *
        clear qL qB hsm CL CB QL QB
        go_wp2_with fail
        refine wp_region_held_drew (S := (fun w' => (loadCells ⟨bb, bo + r * 7, none⟩ 7).run Tryz.prog w' = .ok AB w' ∧ (loadCells ⟨lb, lo + r * 7, none⟩ 7).run Tryz.prog w' = .ok AL w')) (by kernel_rfl) ?_ (fun hHeld => ?_)
        ·first | exact SK.out _ XB | exact SK.out _ zD
        have XB : Below wr.heap.size wr wr.drew := Below.drew (Below.refl _ _)
        generalize wr.drew = vx at *
        refine zT8 0 ?_
        refine zQ 8 fun K hK => ?_
        go_simp
        refine (CE1 _ (XB)).mono ?_; rintro ee vx ⟨rfl, hbl⟩; (replace XB := XB.trans (hbl.mono XB.size)); (clear hbl)
        (try go_wp2_with fail)
        refine hK.out _ _ ?_ (fun hHeld => ?_)
        ·first | exact SK.out _ XB | exact SK.out _ zD
        clear hK K
        (try simp only [zA])
        refine zT4 9 ?_
        refine zT2 13 ?_
        refine zTn 15 ?_
        refine zTn 16 ?_
        refine zTn 17 ?_
        refine zTn 18 ?_
        refine zTn 19 ?_
        refine zTn 20 ?_
        refine zTn 21 ?_
        refine zTn 22 ?_
        refine zTn 23 ?_
        refine zTn 24 ?_
        refine zT2 25 ?_
        refine wpAnyH_done (by kernel_rfl) ?_ _
        have B2 := B.trans (XB.mono B.size)
        have R2 : RwP OdS vx _ n XM ∧ RwP OdW vx _ n (gX (bkD XM n)) ∧ RwP OdW vx _ m (gX (bkD XM m)) := ⟨RL.belowS XB, RB.belowW XB, RS.belowW XB⟩
        clear SK XB CE1 RL RB RS B
        (try clear CE2)
        go_wp2_with fail
        go_roundw
        case rel => exact ⟨r + 1, by omega, by go_num, B2, R2.1, R2.2.1, R2.2.2⟩
        case measure => simp [intOf]; omega
      ·have hli : ¬ (r : Int) < (n : Int) := by omega
       go_wp2_with fail
       go_ret
       exact ⟨rfl, B⟩
    ·obtain ⟨q, hq⟩ : ∃ q, cut = q + 1 := ⟨cut - 1, by omega⟩
     have hix := cJ s q (by omega) v5
     have hwq : IntKind.i64.wrap ((cut : Int) - 1) = (q : Int) := by rw [Go.IntWalk.i64_in _ ⟨by omega, by omega⟩]; omega
     have h00 : ((cut : Int) == 0) = false := by rw [beq_eq_false_iff_ne]; omega
     have HT : Hid ((av s 10 cut).1 = cut ↔ bt s q = 10) := by rw [hq]; exact kz
     clear hq h0
     by_cases hb10 : bt s q = 10
     ·have hcz : c = 0 := HF.out.2 (HT.out.2 hb10)
      subst hcz
      have hbq : (bt s q == 10) = true := by simp [hb10]
      clear HF HT hb10
      generalize bt s q = bq at *
      go_upto_region 23 with (first | rw [hwq] | rw [hix])
      clear hix hbq
      go_wp2_with fail
      go_loopw [17] (fun i wr => ∃ r : Nat, r ≤ n ∧ i = .int .i64 (r : Int) ∧ Below w.heap.size w wr ∧ RwP OdS wr la n XM ∧ RwP OdW wr ba n (gX (bkD XM n)) ∧ RwP OdW wr sa m (gX (bkD XM m))) (fun i _ => n - (intOf i).toNat)
      case atStart => exact ⟨0, Nat.zero_le _, rfl, B, RL, RB, RS⟩
      case round =>
       clear B RL RB RS
       obtain ⟨r, hr, rfl, B, RL, RB, RS⟩ := hrel
       by_cases hlt : r < n
       ·have hli : (r : Int) < (n : Int) := by omega
        obtain ⟨lb, lo, AL0, hla, CL, QL⟩ := bL RL (by omega)
        obtain ⟨bb, bo, AB0, hba, CB, QB⟩ := bL RB (by omega)
        have qL := QL r hlt
        have qB := QB r hlt
        have hsm : cA (gX (bkD XM n) r) (XM r) := by rw [dG XM hlt]; exact HSM.out r hlt
        have CE1 := fun (v : World) (h : Below wr.heap.size wr v) => cZ (AB0 r) (AL0 r) _ _ v hsm (qB.below h) (qL.below h).weak
        subst hla hba
        by_cases hm3 : r < m
        ·have hli3 : (r : Int) < (m : Int) := by omega
         obtain ⟨sb, so, AS0, hsa, CS3, QS⟩ := bL RS (by omega)
         have qS := QS r hm3
         have hsm3 : cA (gX (bkD XM m) r) (XM r) := by rw [dG XM hm3]; exact HSM.out r hlt
         have CE2 := fun (v : World) (h : Below wr.heap.size wr v) => cZ (AS0 r) (AL0 r) _ _ v hsm3 (qS.below h) (qL.below h).weak
         subst hsa
         have SK : Hid (∀ w', Below wr.heap.size wr w' → (loadCells ⟨bb, bo + r * 7, none⟩ 7).run Tryz.prog w' = .ok (AB0 r) w' ∧ (loadCells ⟨lb, lo + r * 7, none⟩ 7).run Tryz.prog w' = .ok (AL0 r) w' ∧ (loadCells ⟨sb, so + r * 7, none⟩ 7).run Tryz.prog w' = .ok (AS0 r) w') := fun w' hw => ⟨(CB.below hw).load (P := Tryz.prog) hlt qB.size, (CL.below hw).load (P := Tryz.prog) hlt qL.size, (CS3.below hw).load (P := Tryz.prog) hm3 qS.size⟩
         generalize AB0 r = AB at *
         generalize AL0 r = AL at *
         generalize AS0 r = AS at *
         clear qL qB qS hsm hsm3 CL CB CS3 QL QB QS
         go_wp2_with fail
         refine wp_region_held_drew (S := (fun w' => (loadCells ⟨bb, bo + r * 7, none⟩ 7).run Tryz.prog w' = .ok AB w' ∧ (loadCells ⟨lb, lo + r * 7, none⟩ 7).run Tryz.prog w' = .ok AL w' ∧ (loadCells ⟨sb, so + r * 7, none⟩ 7).run Tryz.prog w' = .ok AS w')) (by kernel_rfl) ?_ (fun hHeld => ?_)
         ·first | exact SK.out _ XB | exact SK.out _ zD
         have XB : Below wr.heap.size wr wr.drew := Below.drew (Below.refl _ _)
         generalize wr.drew = vx at *
         refine zT8 0 ?_
         refine zQ 8 fun K hK => ?_
         go_simp
         refine (CE1 _ (XB)).mono ?_; rintro ee vx ⟨rfl, hbl⟩; (replace XB := XB.trans (hbl.mono XB.size)); (clear hbl)
         (try go_wp2_with fail)
         refine hK.out _ _ ?_ (fun hHeld => ?_)
         ·first | exact SK.out _ XB | exact SK.out _ zD
         clear hK K
         (try simp only [zA])
         refine zT8 9 ?_
         refine zT4 17 ?_
         refine zT2 21 ?_
         refine zQ 23 fun K hK => ?_
         go_simp
         refine (CE2 _ (XB)).mono ?_; rintro ee vx ⟨rfl, hbl⟩; (replace XB := XB.trans (hbl.mono XB.size)); (clear hbl)
         (try go_wp2_with fail)
         refine hK.out _ _ ?_ (fun hHeld => ?_)
         ·first | exact SK.out _ XB | exact SK.out _ zD
         clear hK K
         (try simp only [zA])
         refine zT2 24 ?_
         refine zTk 26 ?_
         refine wpAnyH_done (by kernel_rfl) ?_ _
         have B2 := B.trans (XB.mono B.size)
         have R2 : RwP OdS vx _ n XM ∧ RwP OdW vx _ n (gX (bkD XM n)) ∧ RwP OdW vx _ m (gX (bkD XM m)) := ⟨RL.belowS XB, RB.belowW XB, RS.belowW XB⟩
         clear SK XB CE1 RL RB RS B
         (try clear CE2)
         go_wp2_with fail
         go_roundw
         case rel => exact ⟨r + 1, by omega, by go_num, B2, R2.1, R2.2.1, R2.2.2⟩
         case measure => simp [intOf]; omega
        ·have hli3 : ¬ (r : Int) < (m : Int) := by omega
         have SK : Hid (∀ w', Below wr.heap.size wr w' → (loadCells ⟨bb, bo + r * 7, none⟩ 7).run Tryz.prog w' = .ok (AB0 r) w' ∧ (loadCells ⟨lb, lo + r * 7, none⟩ 7).run Tryz.prog w' = .ok (AL0 r) w') := fun w' hw => ⟨(CB.below hw).load (P := Tryz.prog) hlt qB.size, (CL.below hw).load (P := Tryz.prog) hlt qL.size⟩
         generalize AB0 r = AB at *
         generalize AL0 r = AL at *
         clear qL qB hsm CL CB QL QB
         go_wp2_with fail
         refine wp_region_held_drew (S := (fun w' => (loadCells ⟨bb, bo + r * 7, none⟩ 7).run Tryz.prog w' = .ok AB w' ∧ (loadCells ⟨lb, lo + r * 7, none⟩ 7).run Tryz.prog w' = .ok AL w')) (by kernel_rfl) ?_ (fun hHeld => ?_)
         ·first | exact SK.out _ XB | exact SK.out _ zD
         have XB : Below wr.heap.size wr wr.drew := Below.drew (Below.refl _ _)
         generalize wr.drew = vx at *
         refine zT8 0 ?_
         refine zQ 8 fun K hK => ?_
         go_simp
         refine (CE1 _ (XB)).mono ?_; rintro ee vx ⟨rfl, hbl⟩; (replace XB := XB.trans (hbl.mono XB.size)); (clear hbl)
         (try go_wp2_with fail)
         refine hK.out _ _ ?_ (fun hHeld => ?_)
         ·first | exact SK.out _ XB | exact SK.out _ zD
         clear hK K
         (try simp only [zA])
         refine zT4 9 ?_
         refine zT2 13 ?_
         refine zTn 15 ?_
         refine zTn 16 ?_
         refine zTn 17 ?_
         refine zTn 18 ?_
         refine zTn 19 ?_
         refine zTn 20 ?_
         refine zTn 21 ?_
         refine zTn 22 ?_
         refine zTn 23 ?_
         refine zTn 24 ?_
         refine zT2 25 ?_
         refine wpAnyH_done (by kernel_rfl) ?_ _
         have B2 := B.trans (XB.mono B.size)
         have R2 : RwP OdS vx _ n XM ∧ RwP OdW vx _ n (gX (bkD XM n)) ∧ RwP OdW vx _ m (gX (bkD XM m)) := ⟨RL.belowS XB, RB.belowW XB, RS.belowW XB⟩
         clear SK XB CE1 RL RB RS B
         (try clear CE2)
         go_wp2_with fail
         go_roundw
         case rel => exact ⟨r + 1, by omega, by go_num, B2, R2.1, R2.2.1, R2.2.2⟩
         case measure => simp [intOf]; omega
       ·have hli : ¬ (r : Int) < (n : Int) := by omega
        go_wp2_with fail
        go_ret
        exact ⟨rfl, B⟩
     ·have hcz : ¬ c = 0 := fun e => hb10 (HT.out.1 (HF.out.1 e))
      have hcq : (c == 0) = false := by simp [hcz]
      have hbq : (bt s q == 10) = false := by simp [hb10]
      clear HF HT hb10
      generalize bt s q = bq at *
      go_upto_region 23 with (first | rw [hwq] | rw [hix])
      clear hix hbq
      go_wp2_with fail
      go_loopw [17] (fun i wr => ∃ r : Nat, r ≤ n ∧ i = .int .i64 (r : Int) ∧ Below w.heap.size w wr ∧ RwP OdS wr la n XM ∧ RwP OdW wr ba n (gX (bkD XM n)) ∧ RwP OdW wr sa m (gX (bkD XM m))) (fun i _ => n - (intOf i).toNat)
      case atStart => exact ⟨0, Nat.zero_le _, rfl, B, RL, RB, RS⟩
      case round =>
       clear B RL RB RS
       obtain ⟨r, hr, rfl, B, RL, RB, RS⟩ := hrel
       by_cases hlt : r < n
       ·have hli : (r : Int) < (n : Int) := by omega
        obtain ⟨lb, lo, AL0, hla, CL, QL⟩ := bL RL (by omega)
        obtain ⟨bb, bo, AB0, hba, CB, QB⟩ := bL RB (by omega)
        have qL := QL r hlt
        have qB := QB r hlt
        have hsm : cA (gX (bkD XM n) r) (XM r) := by rw [dG XM hlt]; exact HSM.out r hlt
        have CE1 := fun (v : World) (h : Below wr.heap.size wr v) => cZ (AB0 r) (AL0 r) _ _ v hsm (qB.below h) (qL.below h).weak
        subst hla hba
        by_cases hm3 : r < m
        ·have hli3 : (r : Int) < (m : Int) := by omega
         obtain ⟨sb, so, AS0, hsa, CS3, QS⟩ := bL RS (by omega)
         have qS := QS r hm3
         have hsm3 : cA (gX (bkD XM m) r) (XM r) := by rw [dG XM hm3]; exact HSM.out r hlt
         have CE2 := fun (v : World) (h : Below wr.heap.size wr v) => cZ (AS0 r) (AL0 r) _ _ v hsm3 (qS.below h) (qL.below h).weak
         subst hsa
         have SK : Hid (∀ w', Below wr.heap.size wr w' → (loadCells ⟨bb, bo + r * 7, none⟩ 7).run Tryz.prog w' = .ok (AB0 r) w' ∧ (loadCells ⟨lb, lo + r * 7, none⟩ 7).run Tryz.prog w' = .ok (AL0 r) w' ∧ (loadCells ⟨sb, so + r * 7, none⟩ 7).run Tryz.prog w' = .ok (AS0 r) w') := fun w' hw => ⟨(CB.below hw).load (P := Tryz.prog) hlt qB.size, (CL.below hw).load (P := Tryz.prog) hlt qL.size, (CS3.below hw).load (P := Tryz.prog) hm3 qS.size⟩
         generalize AB0 r = AB at *
         generalize AL0 r = AL at *
         generalize AS0 r = AS at *
         clear qL qB qS hsm hsm3 CL CB CS3 QL QB QS
         go_wp2_with fail
         refine wp_region_held_drew (S := (fun w' => (loadCells ⟨bb, bo + r * 7, none⟩ 7).run Tryz.prog w' = .ok AB w' ∧ (loadCells ⟨lb, lo + r * 7, none⟩ 7).run Tryz.prog w' = .ok AL w' ∧ (loadCells ⟨sb, so + r * 7, none⟩ 7).run Tryz.prog w' = .ok AS w')) (by kernel_rfl) ?_ (fun hHeld => ?_)
         ·first | exact SK.out _ XB | exact SK.out _ zD
         have XB : Below wr.heap.size wr wr.drew := Below.drew (Below.refl _ _)
         generalize wr.drew = vx at *
         refine zT8 0 ?_
         refine zQ 8 fun K hK => ?_
         go_simp
         refine (CE1 _ (XB)).mono ?_; rintro ee vx ⟨rfl, hbl⟩; (replace XB := XB.trans (hbl.mono XB.size)); (clear hbl)
         (try go_wp2_with fail)
         refine hK.out _ _ ?_ (fun hHeld => ?_)
         ·first | exact SK.out _ XB | exact SK.out _ zD
         clear hK K
         (try simp only [zA])
         refine zT8 9 ?_
         refine zT4 17 ?_
         refine zT2 21 ?_
         refine zQ 23 fun K hK => ?_
         go_simp
         refine (CE2 _ (XB)).mono ?_; rintro ee vx ⟨rfl, hbl⟩; (replace XB := XB.trans (hbl.mono XB.size)); (clear hbl)
         (try go_wp2_with fail)
         refine hK.out _ _ ?_ (fun hHeld => ?_)
         ·first | exact SK.out _ XB | exact SK.out _ zD
         clear hK K
         (try simp only [zA])
         refine zT2 24 ?_
         refine zTk 26 ?_
         refine wpAnyH_done (by kernel_rfl) ?_ _
         have B2 := B.trans (XB.mono B.size)
         have R2 : RwP OdS vx _ n XM ∧ RwP OdW vx _ n (gX (bkD XM n)) ∧ RwP OdW vx _ m (gX (bkD XM m)) := ⟨RL.belowS XB, RB.belowW XB, RS.belowW XB⟩
         clear SK XB CE1 RL RB RS B
         (try clear CE2)
         go_wp2_with fail
         go_roundw
         case rel => exact ⟨r + 1, by omega, by go_num, B2, R2.1, R2.2.1, R2.2.2⟩
         case measure => simp [intOf]; omega
        ·have hli3 : ¬ (r : Int) < (m : Int) := by omega
         have SK : Hid (∀ w', Below wr.heap.size wr w' → (loadCells ⟨bb, bo + r * 7, none⟩ 7).run Tryz.prog w' = .ok (AB0 r) w' ∧ (loadCells ⟨lb, lo + r * 7, none⟩ 7).run Tryz.prog w' = .ok (AL0 r) w') := fun w' hw => ⟨(CB.below hw).load (P := Tryz.prog) hlt qB.size, (CL.below hw).load (P := Tryz.prog) hlt qL.size⟩
         generalize AB0 r = AB at *
         generalize AL0 r = AL at *
         clear qL qB hsm CL CB QL QB
         go_wp2_with fail
         refine wp_region_held_drew (S := (fun w' => (loadCells ⟨bb, bo + r * 7, none⟩ 7).run Tryz.prog w' = .ok AB w' ∧ (loadCells ⟨lb, lo + r * 7, none⟩ 7).run Tryz.prog w' = .ok AL w')) (by kernel_rfl) ?_ (fun hHeld => ?_)
         ·first | exact SK.out _ XB | exact SK.out _ zD
         have XB : Below wr.heap.size wr wr.drew := Below.drew (Below.refl _ _)
         generalize wr.drew = vx at *
         refine zT8 0 ?_
         refine zQ 8 fun K hK => ?_
         go_simp
         refine (CE1 _ (XB)).mono ?_; rintro ee vx ⟨rfl, hbl⟩; (replace XB := XB.trans (hbl.mono XB.size)); (clear hbl)
         (try go_wp2_with fail)
         refine hK.out _ _ ?_ (fun hHeld => ?_)
         ·first | exact SK.out _ XB | exact SK.out _ zD
         clear hK K
         (try simp only [zA])
         refine zT4 9 ?_
         refine zT2 13 ?_
         refine zTn 15 ?_
         refine zTn 16 ?_
         refine zTn 17 ?_
         refine zTn 18 ?_
         refine zTn 19 ?_
         refine zTn 20 ?_
         refine zTn 21 ?_
         refine zTn 22 ?_
         refine zTn 23 ?_
         refine zTn 24 ?_
         refine zT2 25 ?_
         refine wpAnyH_done (by kernel_rfl) ?_ _
         have B2 := B.trans (XB.mono B.size)
         have R2 : RwP OdS vx _ n XM ∧ RwP OdW vx _ n (gX (bkD XM n)) ∧ RwP OdW vx _ m (gX (bkD XM m)) := ⟨RL.belowS XB, RB.belowW XB, RS.belowW XB⟩
         clear SK XB CE1 RL RB RS B
         (try clear CE2)
         go_wp2_with fail
         go_roundw
         case rel => exact ⟨r + 1, by omega, by go_num, B2, R2.1, R2.2.1, R2.2.2⟩
         case measure => simp [intOf]; omega
       ·have hli : ¬ (r : Int) < (n : Int) := by omega
        go_wp2_with fail
        go_ret
        exact ⟨rfl, B⟩
 ·have hsf : scB XM n = false := by simpa using hsb
  rw [lC hsf, hsf]
  go_wp2_with fail
  go_ret
  exact ⟨rfl, B⟩

end Go.Proofs.YtddjiamollfplaaGreatDoor
