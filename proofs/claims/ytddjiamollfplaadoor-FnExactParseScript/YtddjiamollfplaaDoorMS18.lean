/- TextOf and NumOf in the program. -/
import Derived.Lib.AppendIntMem
import Derived.Lib.AtoiErrMem
import Derived.Lib.AtoiAllCases
import Derived.Test.YtddjiamollfplaaDoorMS11
import Derived.Test.YtddjiamollfplaaDoorMS16
import Derived.Test.YtddjiamollfplaaDoorMS17
namespace Go.Proofs.YtddjiamollfplaaDoor
open Go.RowKit
set_option linter.unusedVariables false
def T10 (w : World) : Prop := Go.Lib.TabBelow Tryd.prog w.heap.size w "internal/strconv.uint64pow10" .u64 Go.Lib.pow10Tab
theorem T10.below {w w' : World} (h : T10 w) (hb : Below w.heap.size w w') : T10 w' := fun u hu => h u (hb.trans (hu.mono hb.size))
def ErC (w : World) (g : Nat) : Prop := (∃ u v, w.cell? ⟨g, 0, none⟩ = some (.iface u v)) ∧ g < w.heap.size
theorem ErC.below {w w' : World} {g : Nat} (h : ErC w g) (hb : Below w.heap.size w w') : ErC w' g := by
 obtain ⟨⟨u, v, hc⟩, hg⟩ := h
 exact ⟨⟨u, v, by rw [hb.cell (p := ⟨g, 0, none⟩) hg]; exact hc⟩, Nat.lt_of_lt_of_le hg hb.size⟩
def VN (w : World) : Prop := T10 w ∧ ErC w 3 ∧ ErC w 2
theorem VN.below {w w' : World} (h : VN w) (hb : Below w.heap.size w w') : VN w' := ⟨h.1.below hb, h.2.1.below hb, h.2.2.below hb⟩
def OpW (w : World) : Prop := (∀ k : Nat, k < 15 → w.cell? ⟨0, k, none⟩ = some (.string (nmK (k : Int)))) ∧ 0 < w.heap.size
theorem OpW.below {w w' : World} (h : OpW w) (hb : Below w.heap.size w w') : OpW w' :=
 ⟨fun k hk => by rw [hb.cell (p := ⟨0, k, none⟩) h.2]; exact h.1 k hk, Nat.lt_of_lt_of_le h.2 hb.size⟩
theorem below_grownX (w : World) (q : Nat) (os : Array Obj) : Below w.heap.size w (Go.Sort.grow (w.drewN q) os) :=
 ⟨rfl, rfl, rfl, by first | (simp [Go.Sort.grow]; done) | (simp [Go.Sort.grow]; omega), fun i hi => by
  show ((w.drewN q).heap ++ os)[i]? = _
  rw [Array.getElem?_append_left (by show i < w.heap.size; omega)]
  rfl⟩
theorem itoa_any (n : Int) (w : World) (h0 : -9223372036854775808 ≤ n) (h1 : n ≤ 9223372036854775807) (hT : T10 w) :
 Calls Tryd.prog 51 #[.int .i64 n] w fun e w' => e = .returned (.string (txI n)) ∧ Below w.heap.size w w' := by
 have h := Any.strconv_Itoa itoaA n h0 h1 w (hT w (Below.refl _ _))
 change Calls Tryd.prog 51 _ _ _ at h
 refine h.mono ?_
 rintro e w' ⟨rfl, k, os, rfl⟩
 exact ⟨by rw [txI_itoa n h0 h1], below_grownX w k os⟩
theorem atoi_ok_any (s : ByteArray) (v : Int) (w : World) (hs : s.size ≤ 281474976710656) (h : Go.Lib.atoiAll s.data.toList = .ok v) :
 Calls Tryd.prog 50 #[.string s] w fun e w' => e = .returned (.tuple #[.int .i64 v, .nilIface]) ∧ Below w.heap.size w w' := by
 have h := Any.strconv_Atoi_ok atoiA s (by omega) v h w
 change Calls Tryd.prog 50 _ _ _ at h
 refine h.mono ?_
 rintro e w' ⟨rfl, rfl | ⟨t, rfl⟩⟩
 ·exact ⟨rfl, Below.refl _ _⟩
 ·exact ⟨rfl, Go.Lib.bytesWorld_below _ _ _⟩
theorem atoi_no_any (s : ByteArray) (w : World) (hs : s.size ≤ 281474976710656) (h : ∀ v, Go.Lib.atoiAll s.data.toList ≠ .ok v) (hV : VN w) :
 Calls Tryd.prog 50 #[.string s] w fun e w' => ∃ v N, e = .returned (.tuple #[.int .i64 v, .iface 136 (.pointer (some ⟨N, 0, none⟩))]) ∧ Below w.heap.size w w' := by
 obtain ⟨-, ⟨⟨u1, v1, c1⟩, -⟩, ⟨⟨u2, v2, c2⟩, -⟩⟩ := hV
 cases hq : Go.Lib.atoiAll s.data.toList with
 | ok v => exact absurd hq (h v)
 | «syntax» =>
  have h := Any.strconv_Atoi_syntax atoiA s hs hq (.iface u2 v2) w c2 (.inr ⟨_, _, rfl⟩)
  change Calls Tryd.prog 50 _ _ _ at h
  refine h.mono ?_
  rintro e w' ⟨N, rfl, -, -, hb⟩
  exact ⟨_, N, rfl, hb⟩
 | range =>
  have h := Any.strconv_Atoi_range atoiA s hs hq (.iface u1 v1) w c1 (.inr ⟨_, _, rfl⟩)
  change Calls Tryd.prog 50 _ _ _ at h
  refine h.mono ?_
  rintro e w' ⟨N, rfl, -, -, hb⟩
  exact ⟨_, N, rfl, hb⟩
theorem implTextOf_any (n : Int) (w : World) (h0 : -9223372036854775808 ≤ n) (h1 : n ≤ 9223372036854775807) (hT : T10 w) :
 Calls Tryd.prog 18 #[.int .i64 n] w fun e w' => e = .returned (.string (txI n)) ∧ Below w.heap.size w w' := by
 have CI := itoa_any n w h0 h1 hT
 generalize txI n = x at *
 clear hT
 go_enter Tryd.func18, Tryd.ntmps18
 go_wp2_with fail
 refine CI.mono ?_
 rintro e w1 ⟨rfl, hb⟩
 go_wp2_with fail
 go_ret
 exact ⟨rfl, hb⟩
set_option maxHeartbeats 1000000 in
theorem implNumOf_any (s : ByteArray) (w : World) (hs : s.size ≤ 281474976710656) (hV : VN w) :
 Calls Tryd.prog 17 #[.string s] w fun e w' => e = .returned (.tuple #[.int .i64 (nuI s), .bool (nuB s)]) ∧ Below w.heap.size w w' := by
 by_cases hx : ∃ v, Go.Lib.atoiAll s.data.toList = .ok v
 rotate_left
 ·have hx' : ∀ v, Go.Lib.atoiAll s.data.toList ≠ .ok v := fun v e => hx ⟨v, e⟩
  have hB := nu_bad hx'
  have CA := atoi_no_any s w hs hx' hV
  rw [nu_no hB, hB]
  clear hx hx' hB hV
  go_enter Tryd.func17, Tryd.ntmps17
  go_wp2_with fail
  refine CA.mono ?_
  rintro e w1 ⟨v, N, rfl, hb⟩
  go_wp2_with fail
  go_ret2
  exact ⟨rfl, hb⟩
 obtain ⟨v, hv⟩ := hx
 obtain ⟨v0, v1⟩ := Go.Lib.atoiAll_bounds hv
 obtain ⟨hB, hI⟩ := nu_ok hv v0 v1
 have CA := atoi_ok_any s v w hs hv
 have HB : Hid (nuB s = (decide (-1000000000 < v ∧ v < 1000000000) && ((txI v).toList == s.toList))) := hB
 have HI : Hid (nuB s = true → nuI s = v) := hI
 clear hB hI hv
 by_cases hlo : v < -999999999
 ·have hd : decide (v < -999999999) = true := by simp [hlo]
  have hE : nuB s = false := by rw [HB.out, decide_eq_false (by omega)]; rfl
  rw [nu_no hE, hE]
  clear HB HI hE
  go_enter Tryd.func17, Tryd.ntmps17
  go_wp2_with fail
  refine CA.mono ?_
  rintro e w1 ⟨rfl, hb⟩
  go_wp2_with fail
  go_ret2
  exact ⟨rfl, hb⟩
 have hd1 : decide (v < -999999999) = false := by simp; omega
 by_cases hhi : 999999999 < v
 ·have hd2 : decide (999999999 < v) = true := by simp [hhi]
  have hE : nuB s = false := by rw [HB.out, decide_eq_false (by omega)]; rfl
  rw [nu_no hE, hE]
  clear HB HI hE
  go_enter Tryd.func17, Tryd.ntmps17
  go_wp2_with fail
  refine CA.mono ?_
  rintro e w1 ⟨rfl, hb⟩
  go_wp2_with fail
  go_ret2
  exact ⟨rfl, hb⟩
 have hd2 : decide (999999999 < v) = false := by simp; omega
 have HB2 : Hid (nuB s = ((txI v).toList == s.toList)) := by (show nuB s = _; rw [HB.out, decide_eq_true ⟨by omega, by omega⟩]; rfl)
 have HV : Hid (VN w) := hV
 have CT := fun (u : World) (h : Below w.heap.size w u) => implTextOf_any v u (by omega) (by omega) (HV.out.below h).1
 clear HB hV
 generalize txI v = x at *
 go_enter Tryd.func17, Tryd.ntmps17
 go_wp2_with fail
 refine CA.mono ?_
 rintro e w1 ⟨rfl, hb⟩
 go_wp2_with fail
 refine (CT _ hb).mono ?_
 rintro e w2 ⟨rfl, hb2⟩
 have hb3 := hb.trans (hb2.mono hb.size)
 cases hq : (x.toList == s.toList)
 ·have hq' : (x.toList != s.toList) = true := by rw [bne, hq]; rfl
  have hE : Hid (nuB s = false) := by (show nuB s = false; rw [HB2.out, hq])
  clear HB2 HI
  go_wp2_with fail
  go_ret2
  exact ⟨by rw [nu_no hE.out, hE.out]; rfl, hb3⟩
 ·have hq' : (x.toList != s.toList) = false := by rw [bne, hq]; rfl
  have hE : Hid (nuB s = true) := by (show nuB s = true; rw [HB2.out, hq])
  have hI := HI.out hE.out
  clear HB2 HI
  go_wp2_with fail
  go_ret2
  exact ⟨by rw [hI, hE.out]; rfl, hb3⟩
end Go.Proofs.YtddjiamollfplaaDoor
