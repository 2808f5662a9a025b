/- The words of fields (the program). -/
import Derived.Test.YtddjiamollfplaaGreatDoorMC18
import Derived.Test.YtddjiamollfplaaGreatDoorMC19
namespace Go.Proofs.YtddjiamollfplaaGreatDoor
open Go.RowKit
set_option linter.unusedVariables false
theorem dr (j : Nat) (h1 : 1 ≤ j) (h2 : j ≤ 14) (ob : Nat) (nd tt a b : Int) (tx : ByteArray) (p : Option Addr) (n c : Nat) (hp : (p = none ∧ n = 0) ∨ ∃ b off, p = some ⟨b, off, none⟩) (hn : n ≤ 8) :
 ∃ fid, (fnV j = .func (.func fid) #[] #[] ∧ ∀ (xs : Array Value) (v : World), (callFunc fid xs).run Tryz.prog v = .ok (.enter fid xs) v) ∧ ∀ (w : World), Bo w ob #[.int .i64 (j : Int), .int .i64 nd, .int .i64 tt, .int .i64 a, .int .i64 b, .string tx, .slice p n c] →
  Calls Tryz.prog fid #[.pointer (some ⟨ob, 0, none⟩)] w fun e w' => ∃ u, e = .returned (.agg #[u, opX ob (j : Int)]) ∧ w'.ownsRow w.heap.size 113 1 u (opA ob p n (j : Int)).length (ptR (opA ob p n (j : Int))) ∧ Below w.heap.size w w' := by
 rcases (show j = 1 ∨ j = 2 ∨ j = 3 ∨ j = 4 ∨ j = 5 ∨ j = 6 ∨ j = 7 ∨ j = 8 ∨ j = 9 ∨ j = 10 ∨ j = 11 ∨ j = 12 ∨ j = 13 ∨ j = 14 by omega) with rfl | rfl | rfl | rfl | rfl | rfl | rfl | rfl | rfl | rfl | rfl | rfl | rfl | rfl
 ·exact ⟨56, ⟨rfl, fun xs v => by kernel_rfl⟩, fun w hO => eB ob 1 nd tt a b tx p n c w hO hp hn⟩
 ·exact ⟨57, ⟨rfl, fun xs v => by kernel_rfl⟩, fun w hO => bp ob w⟩
 ·exact ⟨57, ⟨rfl, fun xs v => by kernel_rfl⟩, fun w hO => bp ob w⟩
 ·exact ⟨58, ⟨rfl, fun xs v => by kernel_rfl⟩, fun w hO => eX ob w⟩
 ·exact ⟨59, ⟨rfl, fun xs v => by kernel_rfl⟩, fun w hO => eW ob w⟩
 ·exact ⟨57, ⟨rfl, fun xs v => by kernel_rfl⟩, fun w hO => bp ob w⟩
 ·exact ⟨57, ⟨rfl, fun xs v => by kernel_rfl⟩, fun w hO => bp ob w⟩
 ·exact ⟨57, ⟨rfl, fun xs v => by kernel_rfl⟩, fun w hO => bp ob w⟩
 ·exact ⟨60, ⟨rfl, fun xs v => by kernel_rfl⟩, fun w hO => eJ ob w⟩
 ·exact ⟨61, ⟨rfl, fun xs v => by kernel_rfl⟩, fun w hO => bP ob w⟩
 ·exact ⟨61, ⟨rfl, fun xs v => by kernel_rfl⟩, fun w hO => bP ob w⟩
 ·exact ⟨61, ⟨rfl, fun xs v => by kernel_rfl⟩, fun w hO => bP ob w⟩
 ·exact ⟨62, ⟨rfl, fun xs v => by kernel_rfl⟩, fun w hO => ex ob w⟩
 ·exact ⟨63, ⟨rfl, fun xs v => by kernel_rfl⟩, fun w hO => dT ob w⟩
def tpV (tb : Bool) (ad : Addr) : Value := match tb with | true => .pointer (some ad) | false => .pointer none
def rwI (Z : List Int) : Nat → List ByteArray
 | 0 => []
 | j + 1 => rwI Z j ++ [txI (gI Z j)]
theorem bj (Z : List Int) : ∀ j, (rwI Z j).length = j
 | 0 => rfl
 | j + 1 => by rw [rwI, List.length_append, bj Z j]; rfl
def bG (Z : List Int) (tb : Bool) (tx : ByteArray) : List ByteArray := match tb with | true => rwI Z Z.length ++ [aZ tx] | false => rwI Z Z.length
theorem dj (Z : List Int) (tx : ByteArray) : bG Z true tx = rwI Z Z.length ++ [aZ tx] := rfl
theorem eQ (Z : List Int) (tx : ByteArray) : bG Z false tx = rwI Z Z.length := rfl
theorem jF (c : Nat) (h : c ≤ 1048576) (w : World) : (Instr.makeSlice 46 (.int .i64 0) (.int .i64 (c : Int))).run Tryz.prog w = .ok (.slice (some ⟨w.heap.size, 0, none⟩) 0 c) (w.alloc (.cells (madeCells #[.string ⟨#[]⟩] c) 9)) := by
 obtain ⟨i0, hi0, hz0, hz1, hz2⟩ := info_parts ep
 have hr := run_make (P := Tryz.prog) w 46 9 i0 _ Tryz.underlying46 hi0 hz0 .i64 .i64 0 c (by omega) (by omega) (by rw [hz2]; omega) (by omega)
 rw [hz1, Nat.mul_one] at hr
 simp only [Int.toNat_natCast] at hr
 exact hr
attribute [-go_sem] loadCells storeCells in
set_option maxRecDepth 100000 in
set_option maxHeartbeats 16000000 in
theorem k5 (pa : Option Addr) (m cp : Nat) (ad : Addr) (w : World) (hm : m ≤ 9) :
 Calls Tryz.prog 31 #[.agg #[.slice pa m cp, .pointer (some ad)]] w fun e w' => e = .returned (.int .i64 ((m : Int) + 1)) ∧ Below w.heap.size w w' := by
 have B := Below.nw w (.cells #[.slice pa m cp, .pointer (some ad)] 50)
 have L := Bo.new w #[.slice pa m cp, .pointer (some ad)] 50
 go_enter Tryz.func31, Tryz.ntmps31
 go_upto_region 1 with fail
 generalize w.alloc (.cells #[.slice pa m cp, .pointer (some ad)] 50) = v0 at *
 have c0 : v0.cell? ⟨w.heap.size, 0, none⟩ = some (.slice pa m cp) := L.cell (i := 0) rfl
 have c1 : v0.cell? ⟨w.heap.size, 1, none⟩ = some (.pointer (some ad)) := L.cell (i := 1) rfl
 go_wp2_with fail
 go_ret
 exact ⟨rfl, B⟩
attribute [-go_sem] loadCells storeCells in
set_option maxRecDepth 100000 in
set_option maxHeartbeats 16000000 in
theorem kZ (pa : Option Addr) (m cp : Nat) (w : World) (hm : m ≤ 9) :
 Calls Tryz.prog 31 #[.agg #[.slice pa m cp, .pointer none]] w fun e w' => e = .returned (.int .i64 (m : Int)) ∧ Below w.heap.size w w' := by
 have B := Below.nw w (.cells #[.slice pa m cp, .pointer none] 50)
 have L := Bo.new w #[.slice pa m cp, .pointer none] 50
 go_enter Tryz.func31, Tryz.ntmps31
 go_upto_region 1 with fail
 generalize w.alloc (.cells #[.slice pa m cp, .pointer none] 50) = v0 at *
 have c0 : v0.cell? ⟨w.heap.size, 0, none⟩ = some (.slice pa m cp) := L.cell (i := 0) rfl
 have c1 : v0.cell? ⟨w.heap.size, 1, none⟩ = some (.pointer none) := L.cell (i := 1) rfl
 go_wp2_with fail
 go_ret
 exact ⟨rfl, B⟩
attribute [-go_sem] loadCells storeCells in
set_option maxRecDepth 100000 in
set_option maxHeartbeats 16000000 in
theorem mB (L : List Addr) (Z : List Int) (u : Value) (base : Nat) (w : World) (E0 : T10 w) (h : w.ownsRow base 113 1 u L.length (ptR L)) (hl : L.length ≤ 9) (hLZ : L.length = Z.length) (hz : ∀ (j : Nat) x, L[j]? = some x → x.block < w.heap.size ∧ w.cell? x = some (.int .i64 (gI Z j)) ∧ (-9223372036854775808 ≤ gI Z j ∧ gI Z j ≤ 9223372036854775807)) (ad : Addr) (tx : ByteArray) (ht : ad.block < w.heap.size ∧ w.cell? ad = some (.string tx)) (hx : tx.size ≤ maxLen) :
 Calls Tryz.prog 23 #[.agg #[u, .pointer (some ad)]] w fun e w' => ∃ v, e = .returned v ∧ w'.ownsRow w.heap.size 9 1 v (bG Z true tx).length (stR (bG Z true tx)) ∧ Below w.heap.size w w' := by
 obtain ⟨pa, cp, rfl, hp⟩ := cE h
 have HP : Hid (∀ (j : Nat) x, L[j]? = some x → ∃ g, pa = some ⟨g, 0, none⟩ ∧ g < w.heap.size ∧ w.cell? ⟨g, 0 + j, none⟩ = some (.pointer (some x))) := hp
 have HZ : Hid (∀ (j : Nat) x, L[j]? = some x → x.block < w.heap.size ∧ w.cell? x = some (.int .i64 (gI Z j)) ∧ (-9223372036854775808 ≤ gI Z j ∧ gI Z j ≤ 9223372036854775807)) := hz
 have HE : Hid (T10 w) := E0
 have HWD : Hid (bG Z true tx = rwI Z Z.length ++ [aZ tx]) := dj Z tx
 have B := Below.nw w (.cells #[.slice pa L.length cp, .pointer (some ad)] 50)
 have R := Bo.new w #[.slice pa L.length cp, .pointer (some ad)] 50
 have hmk := fun w => jF (L.length + 1) (by omega) w
 have hc9 : (L.length + 1) ≤ 10 := by omega
 have hcm : ((L.length : Int) + 1) = (((L.length + 1) : Nat) : Int) := by omega
 generalize hcg : (L.length + 1) = cn at *
 clear hcg
 have hZl : Z.length ≤ 9 := by omega
 have HLZ : Hid (L.length = Z.length) := hLZ
 clear h hp hz E0 hLZ
 go_enter Tryz.func23, Tryz.ntmps23
 go_upto_region 1 with fail
 generalize w.alloc (.cells #[.slice pa L.length cp, .pointer (some ad)] 50) = v0 at *
 have hL0 := R.load (P := Tryz.prog) (show (#[.slice pa L.length cp, .pointer (some ad)] : Array Value).size = 2 from rfl)
 go_wp2_with (rw [hL0])
 refine (k5 pa L.length cp ad v0 hl).mono ?_
 rintro e v1 ⟨rfl, hb⟩
 clear hL0
 replace B := B.trans (hb.mono B.size)
 replace R := R.below hb
 clear hb
 have O0 : (v1.alloc (.cells (madeCells #[.string ⟨#[]⟩] cn) 9)).ownsRow v1.heap.size 9 1 (.slice (some ⟨v1.heap.size, 0, none⟩) 0 cn) (rwI Z 0).length (stR (rwI Z 0)) := World.ownsRow_made v1 _ cn (Nat.le_refl _) (by unfold maxLen; omega) (by rw [size_madeCells, Nat.mul_one])
 have hb := Below.nw v1 (.cells (madeCells #[.string ⟨#[]⟩] cn) 9)
 rw [hcm]
 have hmk1 := hmk v1
 clear hmk hcm
 go_upto_region 2 with (rw [hmk1])
 clear hmk1
 have hlo : w.heap.size + 1 ≤ (v1.alloc (.cells (madeCells #[.string ⟨#[]⟩] cn) 9)).heap.size := Nat.le_trans R.1 hb.size
 have O1 := ah O0 (show w.heap.size + 1 ≤ v1.heap.size from R.1)
 replace B := B.trans (hb.mono B.size)
 replace R := R.below hb
 clear hb O0
 generalize v1.alloc (.cells (madeCells #[.string ⟨#[]⟩] cn) 9) = v2 at *
 generalize v1.heap.size = q at *
 have c0 : v2.cell? ⟨w.heap.size, 0, none⟩ = some (.slice pa L.length cp) := R.cell (i := 0) rfl
 go_wp2_with fail
 clear c0
 go_loopw [3, 12] (fun r i wr => ∃ j : Nat, j ≤ L.length ∧ i = .int .i64 (j : Int) ∧ wr.ownsRow (w.heap.size + 1) 9 1 r (rwI Z j).length (stR (rwI Z j)) ∧ Bo wr w.heap.size #[.slice pa L.length cp, .pointer (some ad)] ∧ Below w.heap.size w wr ∧ w.heap.size + 1 ≤ wr.heap.size) (fun _ i _ => L.length - (intOf i).toNat)
 case atStart => exact ⟨0, Nat.zero_le _, rfl, O1, R, B, hlo⟩
 case round =>
  clear R B hlo O1
  obtain ⟨j, hj, rfl, O, R, B, hlo⟩ := hrel
  by_cases hlt : j < L.length
  ·have hli : (j : Int) < (L.length : Int) := by omega
   obtain ⟨x, hxj⟩ : ∃ x, L[j]? = some x := ⟨L[j], List.getElem?_eq_getElem hlt⟩
   obtain ⟨g, rfl, hg, hc⟩ := HP.out j x hxj
   obtain ⟨z1, z2, z3⟩ := HZ.out j x hxj
   replace hc := (B.cell (p := ⟨g, 0 + j, none⟩) hg).trans hc
   rw [Nat.zero_add] at hc
   have z4 := (B.cell (p := x) z1).trans z2
   have CW := ck (gI Z j) wr z3.1 z3.2 (HE.out.below B)
   have HR : Hid (rwI Z (j + 1) = rwI Z j ++ [txI (gI Z j)]) := rfl
   have hRL : (rwI Z j).length = j := bj Z j
   clear z1 z2 z3 hxj hg
   generalize txI (gI Z j) = nw at *
   generalize gI Z j = zz at *
   go_wp2_with fail
   refine CW.mono ?_
   rintro e v6 ⟨rfl, hb⟩
   clear CW hc z4
   replace B := B.trans (hb.mono B.size)
   replace O := ax O hb
   replace R := R.below hb
   replace hlo := Nat.le_trans hlo hb.size
   clear hb
   have b7 := Below.nw v6 (.cells (stR [nw]).toArray 9)
   have HM := ce v6 [nw]
   replace O := ax O b7
   replace R := R.below b7
   replace hlo := Nat.le_trans hlo b7.size
   change Below v6.heap.size v6 (v6.alloc (.cells #[.string nw] 9)) at b7
   change ∀ j u, (stR [nw])[j]? = some u → (v6.alloc (.cells #[.string nw] 9)).cell? ((⟨v6.heap.size, 0, none⟩ : Addr).add j) = some u at HM
   change (v6.alloc (.cells #[.string nw] 9)).ownsRow (w.heap.size + 1) 9 1 _ (rwI Z j).length (stR (rwI Z j)) at O
   change w.heap.size + 1 ≤ (v6.alloc (.cells #[.string nw] 9)).heap.size at hlo
   change Bo (v6.alloc (.cells #[.string nw] 9)) w.heap.size #[.slice (some ⟨g, 0, none⟩) L.length cp, .pointer (some ad)] at R
   replace B := B.trans (b7.mono B.size)
   clear b7
   go_wp2_with (at_builtin; refine ec rfl _ _ rfl (w.heap.size + 1) (rwI Z j) [nw] _ rfl O ⟨v6.heap.size, 0, none⟩ 1 rfl HM (by show (rwI Z j).length + 1 ≤ 64; omega) hlo ?_; intro v8 w8 O8 hg8)
   have Bg := aT O hg8 hlo
   replace R := R.belowB Bg (Nat.lt_succ_self _)
   replace B := B.trans (Bg.mono (Nat.le_succ _))
   have hlo2 := Nat.le_trans hlo Bg.size
   have O9 : w8.ownsRow (w.heap.size + 1) 9 1 v8 (rwI Z (j + 1)).length (stR (rwI Z (j + 1))) := by rw [HR.out]; exact O8
   clear Bg O O8 hg8 HM hlo HR hRL
   go_wp2_with fail
   go_roundw
   case rel => exact ⟨j + 1, by omega, by go_num, O9, R, B, hlo2⟩
   case measure => simp [intOf]; omega
  have hkn : j = Z.length := by have := HLZ.out; omega
  have hli : ¬ (j : Int) < (L.length : Int) := by omega
  clear hlt HP HZ HE
  rw [hkn] at O
  have c1 : wr.cell? ⟨w.heap.size, 1, none⟩ = some (.pointer (some ad)) := R.cell (i := 1) rfl
  have ct : wr.cell? ad = some (.string tx) := (B.cell (p := ad) ht.1).trans ht.2
  have CX := eY tx wr hx
  have HH : Hid (bG Z true tx = rwI Z Z.length ++ [aZ tx]) := HWD.out
  clear HWD
  generalize aZ tx = hx0 at *
  go_wp2_with fail
  refine CX.mono ?_
  rintro e v6 ⟨rfl, hb⟩
  clear CX c1 ct
  replace B := B.trans (hb.mono B.size)
  replace O := ax O hb
  replace hlo := Nat.le_trans hlo hb.size
  clear hb R
  have b7 := Below.nw v6 (.cells (stR [hx0]).toArray 9)
  have HM := ce v6 [hx0]
  replace O := ax O b7
  replace hlo := Nat.le_trans hlo b7.size
  change Below v6.heap.size v6 (v6.alloc (.cells #[.string hx0] 9)) at b7
  change ∀ j u, (stR [hx0])[j]? = some u → (v6.alloc (.cells #[.string hx0] 9)).cell? ((⟨v6.heap.size, 0, none⟩ : Addr).add j) = some u at HM
  change (v6.alloc (.cells #[.string hx0] 9)).ownsRow (w.heap.size + 1) 9 1 _ (rwI Z Z.length).length (stR (rwI Z Z.length)) at O
  change w.heap.size + 1 ≤ (v6.alloc (.cells #[.string hx0] 9)).heap.size at hlo
  replace B := B.trans (b7.mono B.size)
  clear b7
  go_wp2_with (at_builtin; refine ec rfl _ _ rfl (w.heap.size + 1) (rwI Z Z.length) [hx0] _ rfl O ⟨v6.heap.size, 0, none⟩ 1 rfl HM (by show (rwI Z Z.length).length + 1 ≤ 64; rw [bj]; omega) hlo ?_; intro v8 w8 O8 hg8)
  have Bg := aT O hg8 hlo
  replace B := B.trans (Bg.mono (Nat.le_succ _))
  clear Bg O hg8 HM hlo
  go_wp2_with fail
  go_ret
  exact ⟨_, rfl, by rw [HH.out]; exact ah O8 (Nat.le_succ _), B⟩
attribute [-go_sem] loadCells storeCells in
set_option maxRecDepth 100000 in
set_option maxHeartbeats 16000000 in
theorem mA (L : List Addr) (Z : List Int) (u : Value) (base : Nat) (w : World) (E0 : T10 w) (h : w.ownsRow base 113 1 u L.length (ptR L)) (hl : L.length ≤ 9) (hLZ : L.length = Z.length) (hz : ∀ (j : Nat) x, L[j]? = some x → x.block < w.heap.size ∧ w.cell? x = some (.int .i64 (gI Z j)) ∧ (-9223372036854775808 ≤ gI Z j ∧ gI Z j ≤ 9223372036854775807)) (tx : ByteArray) :
 Calls Tryz.prog 23 #[.agg #[u, .pointer none]] w fun e w' => ∃ v, e = .returned v ∧ w'.ownsRow w.heap.size 9 1 v (bG Z false tx).length (stR (bG Z false tx)) ∧ Below w.heap.size w w' := by
 obtain ⟨pa, cp, rfl, hp⟩ := cE h
 have HP : Hid (∀ (j : Nat) x, L[j]? = some x → ∃ g, pa = some ⟨g, 0, none⟩ ∧ g < w.heap.size ∧ w.cell? ⟨g, 0 + j, none⟩ = some (.pointer (some x))) := hp
 have HZ : Hid (∀ (j : Nat) x, L[j]? = some x → x.block < w.heap.size ∧ w.cell? x = some (.int .i64 (gI Z j)) ∧ (-9223372036854775808 ≤ gI Z j ∧ gI Z j ≤ 9223372036854775807)) := hz
 have HE : Hid (T10 w) := E0
 have HWD : Hid (bG Z false tx = rwI Z Z.length) := eQ Z tx
 have B := Below.nw w (.cells #[.slice pa L.length cp, .pointer none] 50)
 have R := Bo.new w #[.slice pa L.length cp, .pointer none] 50
 have hmk := fun w => jF (L.length + 0) (by omega) w
 have hc9 : (L.length + 0) ≤ 10 := by omega
 have hcm : (L.length : Int) = (((L.length + 0) : Nat) : Int) := by omega
 generalize hcg : (L.length + 0) = cn at *
 clear hcg
 have hZl : Z.length ≤ 9 := by omega
 have HLZ : Hid (L.length = Z.length) := hLZ
 clear h hp hz E0 hLZ
 go_enter Tryz.func23, Tryz.ntmps23
 go_upto_region 1 with fail
 generalize w.alloc (.cells #[.slice pa L.length cp, .pointer none] 50) = v0 at *
 have hL0 := R.load (P := Tryz.prog) (show (#[.slice pa L.length cp, .pointer none] : Array Value).size = 2 from rfl)
 go_wp2_with (rw [hL0])
 refine (kZ pa L.length cp v0 hl).mono ?_
 rintro e v1 ⟨rfl, hb⟩
 clear hL0
 replace B := B.trans (hb.mono B.size)
 replace R := R.below hb
 clear hb
 have O0 : (v1.alloc (.cells (madeCells #[.string ⟨#[]⟩] cn) 9)).ownsRow v1.heap.size 9 1 (.slice (some ⟨v1.heap.size, 0, none⟩) 0 cn) (rwI Z 0).length (stR (rwI Z 0)) := World.ownsRow_made v1 _ cn (Nat.le_refl _) (by unfold maxLen; omega) (by rw [size_madeCells, Nat.mul_one])
 have hb := Below.nw v1 (.cells (madeCells #[.string ⟨#[]⟩] cn) 9)
 rw [hcm]
 have hmk1 := hmk v1
 clear hmk hcm
 go_upto_region 2 with (rw [hmk1])
 clear hmk1
 have hlo : w.heap.size + 1 ≤ (v1.alloc (.cells (madeCells #[.string ⟨#[]⟩] cn) 9)).heap.size := Nat.le_trans R.1 hb.size
 have O1 := ah O0 (show w.heap.size + 1 ≤ v1.heap.size from R.1)
 replace B := B.trans (hb.mono B.size)
 replace R := R.below hb
 clear hb O0
 generalize v1.alloc (.cells (madeCells #[.string ⟨#[]⟩] cn) 9) = v2 at *
 generalize v1.heap.size = q at *
 have c0 : v2.cell? ⟨w.heap.size, 0, none⟩ = some (.slice pa L.length cp) := R.cell (i := 0) rfl
 go_wp2_with fail
 clear c0
 go_loopw [3, 12] (fun r i wr => ∃ j : Nat, j ≤ L.length ∧ i = .int .i64 (j : Int) ∧ wr.ownsRow (w.heap.size + 1) 9 1 r (rwI Z j).length (stR (rwI Z j)) ∧ Bo wr w.heap.size #[.slice pa L.length cp, .pointer none] ∧ Below w.heap.size w wr ∧ w.heap.size + 1 ≤ wr.heap.size) (fun _ i _ => L.length - (intOf i).toNat)
 case atStart => exact ⟨0, Nat.zero_le _, rfl, O1, R, B, hlo⟩
 case round =>
  clear R B hlo O1
  obtain ⟨j, hj, rfl, O, R, B, hlo⟩ := hrel
  by_cases hlt : j < L.length
  ·have hli : (j : Int) < (L.length : Int) := by omega
   obtain ⟨x, hxj⟩ : ∃ x, L[j]? = some x := ⟨L[j], List.getElem?_eq_getElem hlt⟩
   obtain ⟨g, rfl, hg, hc⟩ := HP.out j x hxj
   obtain ⟨z1, z2, z3⟩ := HZ.out j x hxj
   replace hc := (B.cell (p := ⟨g, 0 + j, none⟩) hg).trans hc
   rw [Nat.zero_add] at hc
   have z4 := (B.cell (p := x) z1).trans z2
   have CW := ck (gI Z j) wr z3.1 z3.2 (HE.out.below B)
   have HR : Hid (rwI Z (j + 1) = rwI Z j ++ [txI (gI Z j)]) := rfl
   have hRL : (rwI Z j).length = j := bj Z j
   clear z1 z2 z3 hxj hg
   generalize txI (gI Z j) = nw at *
   generalize gI Z j = zz at *
   go_wp2_with fail
   refine CW.mono ?_
   rintro e v6 ⟨rfl, hb⟩
   clear CW hc z4
   replace B := B.trans (hb.mono B.size)
   replace O := ax O hb
   replace R := R.below hb
   replace hlo := Nat.le_trans hlo hb.size
   clear hb
   have b7 := Below.nw v6 (.cells (stR [nw]).toArray 9)
   have HM := ce v6 [nw]
   replace O := ax O b7
   replace R := R.below b7
   replace hlo := Nat.le_trans hlo b7.size
   change Below v6.heap.size v6 (v6.alloc (.cells #[.string nw] 9)) at b7
   change ∀ j u, (stR [nw])[j]? = some u → (v6.alloc (.cells #[.string nw] 9)).cell? ((⟨v6.heap.size, 0, none⟩ : Addr).add j) = some u at HM
   change (v6.alloc (.cells #[.string nw] 9)).ownsRow (w.heap.size + 1) 9 1 _ (rwI Z j).length (stR (rwI Z j)) at O
   change w.heap.size + 1 ≤ (v6.alloc (.cells #[.string nw] 9)).heap.size at hlo
   change Bo (v6.alloc (.cells #[.string nw] 9)) w.heap.size #[.slice (some ⟨g, 0, none⟩) L.length cp, .pointer none] at R
   replace B := B.trans (b7.mono B.size)
   clear b7
   go_wp2_with (at_builtin; refine ec rfl _ _ rfl (w.heap.size + 1) (rwI Z j) [nw] _ rfl O ⟨v6.heap.size, 0, none⟩ 1 rfl HM (by show (rwI Z j).length + 1 ≤ 64; omega) hlo ?_; intro v8 w8 O8 hg8)
   have Bg := aT O hg8 hlo
   replace R := R.belowB Bg (Nat.lt_succ_self _)
   replace B := B.trans (Bg.mono (Nat.le_succ _))
   have hlo2 := Nat.le_trans hlo Bg.size
   have O9 : w8.ownsRow (w.heap.size + 1) 9 1 v8 (rwI Z (j + 1)).length (stR (rwI Z (j + 1))) := by rw [HR.out]; exact O8
   clear Bg O O8 hg8 HM hlo HR hRL
   go_wp2_with fail
   go_roundw
   case rel => exact ⟨j + 1, by omega, by go_num, O9, R, B, hlo2⟩
   case measure => simp [intOf]; omega
  have hkn : j = Z.length := by have := HLZ.out; omega
  have hli : ¬ (j : Int) < (L.length : Int) := by omega
  clear hlt HP HZ HE
  rw [hkn] at O
  have c1 : wr.cell? ⟨w.heap.size, 1, none⟩ = some (.pointer none) := R.cell (i := 1) rfl
  go_wp2_with fail
  go_ret
  exact ⟨_, rfl, by rw [HWD.out]; exact ah O (Nat.le_succ _), B⟩
end Go.Proofs.YtddjiamollfplaaGreatDoor
