/- The text of a number and the numerals of the library: the same (pure). TextOf and NumOf in the program. -/
import Derived.Lib.ItoaNum
import Derived.Lib.AtoiAll
import Derived.Lib.AppendIntMem
import Derived.Lib.AtoiErrMem
import Derived.Lib.AtoiAllCases
import Derived.Test.YtddjiamollfplaaGreatDoorMC6
import Derived.Test.YtddjiamollfplaaGreatDoorMC11
import Derived.Test.YtddjiamollfplaaGreatDoorMC12
namespace Go.Proofs.YtddjiamollfplaaGreatDoor
open Go.RowKit
set_option linter.unusedVariables false
theorem kB : ∀ (f K : Nat) (L : List Int), K ≠ 0 → K < 10 ^ f → dL f K L = ((Go.Lib.decDigits K).map fun c => (c.toNat : Int)) ++ L
 | 0, K, L, hz, h => absurd (by simpa using h) hz
 | f + 1, K, L, hz, h => by
  rw [dL, if_neg hz]
  by_cases h10 : K < 10
  ·have e : K / 10 = 0 := by omega
   have e2 : dL f 0 ((48 + (K : Int) % 10) :: L) = (48 + (K : Int) % 10) :: L := by cases f <;> simp [dL]
   have e3 : ((UInt8.ofNat (48 + K)).toNat : Int) = 48 + (K : Int) % 10 := by rw [UInt8.toNat_ofNat']; omega
   rw [e, e2, Go.Lib.decDigits_one h10, List.map_cons, e3]
   rfl
  ·have e3 : ((UInt8.ofNat (48 + K % 10)).toNat : Int) = 48 + (K : Int) % 10 := by rw [UInt8.toNat_ofNat']; omega
   have e4 : Go.Lib.decDigits K = Go.Lib.decDigits (K / 10) ++ [UInt8.ofNat (48 + K % 10)] := by rw [Go.Lib.decDigits, dif_neg h10]
   rw [kB f (K / 10) _ (by omega) (cT h), e4, List.map_append, List.append_assoc, List.map_cons, e3]
   rfl
theorem lF (l : List UInt8) : strOfNums (l.map fun c => (c.toNat : Int)) = ⟨l.toArray⟩ := by
 apply ByteArray.ext
 rw [strOfNums, List.map_map]
 have : ((fun n : Int => UInt8.ofNat n.toNat) ∘ fun c : UInt8 => (c.toNat : Int)) = id := by
  funext c; simp
 rw [this, List.map_id]
theorem ju {K : Nat} (hz : K ≠ 0) (h : K < 10 ^ 20) : dgs K = ⟨(Go.Lib.decDigits K).toArray⟩ := by
 rw [eh, kB 20 K [] hz h, List.append_nil, lF]
theorem iD (n : Int) (h0 : -9223372036854775808 ≤ n) (h1 : n ≤ 9223372036854775807) : (⟨(Go.Lib.itoa n).toArray⟩ : ByteArray) = txI n := by
 by_cases hz : n = 0
 ·subst hz
  have e : Go.Lib.itoa 0 = [48] := by rw [Go.Lib.itoa, if_neg (by omega)]; exact Go.Lib.decDigits_one (by decide)
  rw [e]; rfl
 ·by_cases hp : 0 < n
  ·obtain ⟨K, rfl⟩ := Int.eq_ofNat_of_zero_le (show 0 ≤ n by omega)
   rw [lO (by omega), ju (by omega) (by omega), Go.Lib.itoa, if_neg (by omega)]
   rfl
  ·obtain ⟨K, hK⟩ := Int.eq_ofNat_of_zero_le (show 0 ≤ -n by omega)
   have hn : n = -(K : Int) := by omega
   subst hn
   rw [lN (by omega), ju (by omega) (by omega), Go.Lib.itoa, if_pos (by omega), Int.natAbs_neg]
   apply ByteArray.ext
   rw [ByteArray.data_append]
   simp
theorem iE {n : Int} (h0 : -9223372036854775808 ≤ n) (h1 : n ≤ 9223372036854775807) : (txI n).data.toList = Go.Lib.itoa n := by rw [← iD n h0 h1]
theorem kf (K : Nat) : ∀ r, K < 18446744073709551616 → Go.Lib.parseUint10 0 (Go.Lib.decDigits K ++ r) = Go.Lib.parseUint10 K r := by
 induction K using Nat.strongRecOn with
 | _ K ih =>
  intro r hK
  by_cases h10 : K < 10
  ·have e : (UInt8.ofNat (48 + K)).toNat = 48 + K := by rw [UInt8.toNat_ofNat']; omega
   rw [Go.Lib.decDigits_one h10, List.singleton_append, Go.Lib.parseUint10, e, if_pos (by omega), if_neg (by omega), if_neg (by omega)]
   congr 1; omega
  ·have e : (UInt8.ofNat (48 + K % 10)).toNat = 48 + K % 10 := by rw [UInt8.toNat_ofNat']; omega
   have e4 : Go.Lib.decDigits K = Go.Lib.decDigits (K / 10) ++ [UInt8.ofNat (48 + K % 10)] := by rw [Go.Lib.decDigits, dif_neg h10]
   rw [e4, List.append_assoc, ih (K / 10) (by omega) _ (by omega), List.singleton_append, Go.Lib.parseUint10, e, if_pos (by omega), if_neg (by omega), if_neg (by omega)]
   congr 1; omega
theorem gM (K : Nat) : ∃ c r, Go.Lib.decDigits K = c :: r ∧ 48 ≤ c.toNat ∧ c.toNat ≤ 57 := by
 induction K using Nat.strongRecOn with
 | _ K ih =>
  by_cases h10 : K < 10
  ·have e : (UInt8.ofNat (48 + K)).toNat = 48 + K := by rw [UInt8.toNat_ofNat']; omega
   exact ⟨_, _, Go.Lib.decDigits_one h10, by omega, by omega⟩
  ·obtain ⟨c, r, h1, h2, h3⟩ := ih (K / 10) (by omega)
   exact ⟨c, r ++ [UInt8.ofNat (48 + K % 10)], by rw [Go.Lib.decDigits, dif_neg h10, h1]; rfl, h2, h3⟩
theorem jE {K : Nat} (hK : K < 18446744073709551616) : Go.Lib.parseMag (Go.Lib.decDigits K) = .ok K := by
 obtain ⟨c, r, h1, h2, h3⟩ := gM K
 have e := kf K [] hK
 rw [List.append_nil] at e
 rw [Go.Lib.parseMag, if_neg (by rw [h1]; exact List.cons_ne_nil _ _), e]
 rfl
theorem fm {n : Int} (h0 : -9223372036854775808 ≤ n) (h1 : n ≤ 9223372036854775807) : Go.Lib.atoiAll (Go.Lib.itoa n) = .ok n := by
 by_cases hp : 0 ≤ n
 ·obtain ⟨K, rfl⟩ := Int.eq_ofNat_of_zero_le hp
  obtain ⟨c, r, q1, q2, q3⟩ := gM K
  have e : Go.Lib.itoa (K : Int) = c :: r := by rw [Go.Lib.itoa, if_neg (by omega)]; exact q1
  have hm : Go.Lib.parseMag (c :: r) = .ok K := by rw [← q1]; exact jE (by omega)
  rw [e]
  show (match Go.Lib.parseMag (if c.toNat = 43 ∨ c.toNat = 45 then r else c :: r) with | .syntax => _ | .range => _ | .ok u => _) = _
  rw [if_neg (by omega), hm]
  show (if ¬ c.toNat = 45 ∧ 9223372036854775808 ≤ K then Go.Lib.NumEnd.range else if c.toNat = 45 ∧ 9223372036854775808 < K then Go.Lib.NumEnd.range else .ok (if c.toNat = 45 then -(K : Int) else (K : Int))) = _
  rw [if_neg (by omega), if_neg (by omega), if_neg (by omega)]
 ·obtain ⟨K, hK⟩ := Int.eq_ofNat_of_zero_le (show 0 ≤ -n by omega)
  have hn : n = -(K : Int) := by omega
  subst hn
  have e : Go.Lib.itoa (-(K : Int)) = 45 :: Go.Lib.decDigits K := by rw [Go.Lib.itoa, if_pos (by omega), Int.natAbs_neg]; rfl
  have hc : (45 : UInt8).toNat = 45 := rfl
  rw [e]
  show (match Go.Lib.parseMag (if (45 : UInt8).toNat = 43 ∨ (45 : UInt8).toNat = 45 then Go.Lib.decDigits K else _) with | .syntax => _ | .range => _ | .ok u => _) = _
  rw [if_pos (by decide), jE (by omega)]
  show (if ¬ (45 : UInt8).toNat = 45 ∧ 9223372036854775808 ≤ K then Go.Lib.NumEnd.range else if (45 : UInt8).toNat = 45 ∧ 9223372036854775808 < K then Go.Lib.NumEnd.range else .ok (if (45 : UInt8).toNat = 45 then -(K : Int) else (K : Int))) = _
  rw [hc, if_neg (by omega), if_neg (by omega), if_pos rfl]
theorem fY {s : ByteArray} (h : nuB s = true) : -1000000000 < nmX s ∧ nmX s < 1000000000 ∧ txI (nmX s) = s := by
 rw [nuB, Bool.and_eq_true, Bool.and_eq_true, Bool.and_eq_true] at h
 obtain ⟨_, h9, hD, hq⟩ := h
 have h9 := of_decide_eq_true h9
 obtain ⟨v0, v1⟩ := ka hD h9
 have hq' : (txI (nmX s)).toList = s.toList := by simpa using hq
 refine ⟨?_, ?_, ?_⟩
 ·rw [nmX]; split <;> omega
 ·rw [nmX]; split <;> omega
 ·have h1 := congrArg List.toArray hq'
  apply ByteArray.ext
  have t : ∀ b : ByteArray, b.toList = b.data.toList := fun b => ByteArray.toList_eq ..
  rw [t, t] at h1
  simpa using h1
theorem m9 {s : ByteArray} (h : ∀ v, Go.Lib.atoiAll s.data.toList ≠ .ok v) : nuB s = false := by
 cases hB : nuB s with
 | false => rfl
 | true =>
  obtain ⟨q0, q1, q2⟩ := fY hB
  refine absurd ?_ (h (nmX s))
  have e := iE (n := nmX s) (by omega) (by omega)
  rw [q2] at e
  rw [e]
  exact fm (by omega) (by omega)
theorem nu_ok {s : ByteArray} {v : Int} (h : Go.Lib.atoiAll s.data.toList = .ok v) (h0 : -9223372036854775808 ≤ v) (h1 : v ≤ 9223372036854775807) :
 nuB s = (decide (-1000000000 < v ∧ v < 1000000000) && ((txI v).toList == s.toList)) ∧ (nuB s = true → nuI s = v) := by
 have hv : nuB s = true → nmX s = v := fun hB => by
  obtain ⟨q0, q1, q2⟩ := fY hB
  have e := iE (n := nmX s) (by omega) (by omega)
  rw [q2] at e
  rw [e, fm (by omega) (by omega)] at h
  injection h
 refine ⟨?_, fun hB => by rw [fZ hB, hv hB]⟩
 cases hB : nuB s with
 | true =>
  obtain ⟨q0, q1, q2⟩ := fY hB
  have e := hv hB
  rw [e] at q0 q1 q2
  rw [decide_eq_true ⟨q0, q1⟩, q2]
  simp
 | false =>
  cases hR : (decide (-1000000000 < v ∧ v < 1000000000) && ((txI v).toList == s.toList)) with
  | false => rfl
  | true =>
   rw [Bool.and_eq_true] at hR
   obtain ⟨r1, r2⟩ := hR
   have r2' : (txI v).toList = s.toList := by simpa using r2
   have hs : txI v = s := by
    have h3 := congrArg List.toArray r2'
    apply ByteArray.ext
    have t : ∀ b : ByteArray, b.toList = b.data.toList := fun b => ByteArray.toList_eq ..
    rw [t, t] at h3
    simpa using h3
   have hb := (gU v h0 h1).1
   rw [hs, hB, r1] at hb
   exact absurd hb (by decide)
end Go.Proofs.YtddjiamollfplaaGreatDoor
namespace Go.Proofs.YtddjiamollfplaaGreatDoor
open Go.RowKit
set_option linter.unusedVariables false
def T10 (w : World) : Prop := Go.Lib.TabBelow Tryz.prog w.heap.size w "internal/strconv.uint64pow10" .u64 Go.Lib.pow10Tab
theorem T10.below {w w' : World} (h : T10 w) (hb : Below w.heap.size w w') : T10 w' := fun u hu => h u (hb.trans (hu.mono hb.size))
def ErC (w : World) (g : Nat) : Prop := (∃ u v, w.cell? ⟨g, 0, none⟩ = some (.iface u v)) ∧ g < w.heap.size
theorem ErC.below {w w' : World} {g : Nat} (h : ErC w g) (hb : Below w.heap.size w w') : ErC w' g := by
 obtain ⟨⟨u, v, hc⟩, hg⟩ := h
 exact ⟨⟨u, v, by rw [hb.cell (p := ⟨g, 0, none⟩) hg]; exact hc⟩, Nat.lt_of_lt_of_le hg hb.size⟩
def VN (w : World) : Prop := T10 w ∧ ErC w 3 ∧ ErC w 2
theorem VN.below {w w' : World} (h : VN w) (hb : Below w.heap.size w w') : VN w' := ⟨h.1.below hb, h.2.1.below hb, h.2.2.below hb⟩
def OpW (w : World) : Prop := (∀ k : Nat, k < 15 → w.cell? ⟨0, k, none⟩ = some (.string (nmK (k : Int)))) ∧ 0 < w.heap.size
theorem OpW.below {w w' : World} (h : OpW w) (hb : Below w.heap.size w w') : OpW w' :=
 ⟨fun k hk => by rw [hb.cell (p := ⟨0, k, none⟩) h.2]; exact h.1 k hk, Nat.lt_of_lt_of_le h.2 hb.size⟩
theorem fL (w : World) (q : Nat) (os : Array Obj) : Below w.heap.size w (Go.Sort.grow (w.drewN q) os) :=
 ⟨rfl, rfl, rfl, by first | (simp [Go.Sort.grow]; done) | (simp [Go.Sort.grow]; omega), fun i hi => by
  show ((w.drewN q).heap ++ os)[i]? = _
  rw [Array.getElem?_append_left (by show i < w.heap.size; omega)]
  rfl⟩
theorem kU (n : Int) (w : World) (h0 : -9223372036854775808 ≤ n) (h1 : n ≤ 9223372036854775807) (hT : T10 w) :
 Calls Tryz.prog 83 #[.int .i64 n] w fun e w' => e = .returned (.string (txI n)) ∧ Below w.heap.size w w' := by
 have h := Any.strconv_Itoa itoaA n h0 h1 w (hT w (Below.refl _ _))
 change Calls Tryz.prog 83 _ _ _ at h
 refine h.mono ?_
 rintro e w' ⟨rfl, k, os, rfl⟩
 exact ⟨by rw [iD n h0 h1], fL w k os⟩
theorem gB (s : ByteArray) (v : Int) (w : World) (hs : s.size ≤ 281474976710656) (h : Go.Lib.atoiAll s.data.toList = .ok v) :
 Calls Tryz.prog 85 #[.string s] w fun e w' => e = .returned (.tuple #[.int .i64 v, .nilIface]) ∧ Below w.heap.size w w' := by
 have h := Any.strconv_Atoi_ok ks s (by omega) v h w
 change Calls Tryz.prog 85 _ _ _ at h
 refine h.mono ?_
 rintro e w' ⟨rfl, rfl | ⟨t, rfl⟩⟩
 ·exact ⟨rfl, Below.refl _ _⟩
 ·exact ⟨rfl, Go.Lib.bytesWorld_below _ _ _⟩
theorem gA (s : ByteArray) (w : World) (hs : s.size ≤ 281474976710656) (h : ∀ v, Go.Lib.atoiAll s.data.toList ≠ .ok v) (hV : VN w) :
 Calls Tryz.prog 85 #[.string s] w fun e w' => ∃ v N, e = .returned (.tuple #[.int .i64 v, .iface 163 (.pointer (some ⟨N, 0, none⟩))]) ∧ Below w.heap.size w w' := by
 obtain ⟨-, ⟨⟨u1, v1, c1⟩, -⟩, ⟨⟨u2, v2, c2⟩, -⟩⟩ := hV
 cases hq : Go.Lib.atoiAll s.data.toList with
 | ok v => exact absurd hq (h v)
 | «syntax» =>
  have h := Any.strconv_Atoi_syntax ks s hs hq (.iface u2 v2) w c2 (.inr ⟨_, _, rfl⟩)
  change Calls Tryz.prog 85 _ _ _ at h
  refine h.mono ?_
  rintro e w' ⟨N, rfl, -, -, hb⟩
  exact ⟨_, N, rfl, hb⟩
 | range =>
  have h := Any.strconv_Atoi_range ks s hs hq (.iface u1 v1) w c1 (.inr ⟨_, _, rfl⟩)
  change Calls Tryz.prog 85 _ _ _ at h
  refine h.mono ?_
  rintro e w' ⟨N, rfl, -, -, hb⟩
  exact ⟨_, N, rfl, hb⟩
theorem ck (n : Int) (w : World) (h0 : -9223372036854775808 ≤ n) (h1 : n ≤ 9223372036854775807) (hT : T10 w) :
 Calls Tryz.prog 64 #[.int .i64 n] w fun e w' => e = .returned (.string (txI n)) ∧ Below w.heap.size w w' := by
 have CI := kU n w h0 h1 hT
 generalize txI n = x at *
 clear hT
 go_enter Tryz.func64, Tryz.ntmps64
 go_wp2_with fail
 refine CI.mono ?_
 rintro e w1 ⟨rfl, hb⟩
 go_wp2_with fail
 go_ret
 exact ⟨rfl, hb⟩
set_option maxHeartbeats 1000000 in
theorem da (s : ByteArray) (w : World) (hs : s.size ≤ 281474976710656) (hV : VN w) :
 Calls Tryz.prog 67 #[.string s] w fun e w' => e = .returned (.tuple #[.int .i64 (nuI s), .bool (nuB s)]) ∧ Below w.heap.size w w' := by
 by_cases hx : ∃ v, Go.Lib.atoiAll s.data.toList = .ok v
 rotate_left
 ·have hx' : ∀ v, Go.Lib.atoiAll s.data.toList ≠ .ok v := fun v e => hx ⟨v, e⟩
  have hB := m9 hx'
  have CA := gA s w hs hx' hV
  rw [jI hB, hB]
  clear hx hx' hB hV
  go_enter Tryz.func67, Tryz.ntmps67
  go_wp2_with fail
  refine CA.mono ?_
  rintro e w1 ⟨v, N, rfl, hb⟩
  go_wp2_with fail
  go_ret2
  exact ⟨rfl, hb⟩
 obtain ⟨v, hv⟩ := hx
 obtain ⟨v0, v1⟩ := Go.Lib.atoiAll_bounds hv
 obtain ⟨hB, hI⟩ := nu_ok hv v0 v1
 have CA := gB s v w hs hv
 have HB : Hid (nuB s = (decide (-1000000000 < v ∧ v < 1000000000) && ((txI v).toList == s.toList))) := hB
 have HI : Hid (nuB s = true → nuI s = v) := hI
 clear hB hI hv
 by_cases hlo : v < -999999999
 ·have hd : decide (v < -999999999) = true := by simp [hlo]
  have hE : nuB s = false := by rw [HB.out, decide_eq_false (by omega)]; rfl
  rw [jI hE, hE]
  clear HB HI hE
  go_enter Tryz.func67, Tryz.ntmps67
  go_wp2_with fail
  refine CA.mono ?_
  rintro e w1 ⟨rfl, hb⟩
  go_wp2_with fail
  go_ret2
  exact ⟨rfl, hb⟩
 have hd1 : decide (v < -999999999) = false := by simp; omega
 by_cases hhi : 999999999 < v
 ·have hd2 : decide (999999999 < v) = true := by simp [hhi]
  have hE : nuB s = false := by rw [HB.out, decide_eq_false (by omega)]; rfl
  rw [jI hE, hE]
  clear HB HI hE
  go_enter Tryz.func67, Tryz.ntmps67
  go_wp2_with fail
  refine CA.mono ?_
  rintro e w1 ⟨rfl, hb⟩
  go_wp2_with fail
  go_ret2
  exact ⟨rfl, hb⟩
 have hd2 : decide (999999999 < v) = false := by simp; omega
 have HB2 : Hid (nuB s = ((txI v).toList == s.toList)) := by (show nuB s = _; rw [HB.out, decide_eq_true ⟨by omega, by omega⟩]; rfl)
 have HV : Hid (VN w) := hV
 have CT := fun (u : World) (h : Below w.heap.size w u) => ck v u (by omega) (by omega) (HV.out.below h).1
 clear HB hV
 generalize txI v = x at *
 go_enter Tryz.func67, Tryz.ntmps67
 go_wp2_with fail
 refine CA.mono ?_
 rintro e w1 ⟨rfl, hb⟩
 go_wp2_with fail
 refine (CT _ hb).mono ?_
 rintro e w2 ⟨rfl, hb2⟩
 have hb3 := hb.trans (hb2.mono hb.size)
 cases hq : (x.toList == s.toList)
 ·have hq' : (x.toList != s.toList) = true := by rw [bne, hq]; rfl
  have hE : Hid (nuB s = false) := by (show nuB s = false; rw [HB2.out, hq])
  clear HB2 HI
  go_wp2_with fail
  go_ret2
  exact ⟨by rw [jI hE.out, hE.out]; rfl, hb3⟩
 ·have hq' : (x.toList != s.toList) = false := by rw [bne, hq]; rfl
  have hE : Hid (nuB s = true) := by (show nuB s = true; rw [HB2.out, hq])
  have hI := HI.out hE.out
  clear HB2 HI
  go_wp2_with fail
  go_ret2
  exact ⟨by rw [hI, hE.out]; rfl, hb3⟩
end Go.Proofs.YtddjiamollfplaaGreatDoor
