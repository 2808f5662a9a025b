/- The comparisons of fractions by their wholes and by their rests. -/
import Derived.Test.YtblappilppfkiaaDoorF121
import Derived.Test.YtblappilppfkiaaDoorF122
import Derived.Test.YtblappilppfkiaaDoorI105
import Derived.Handy
import Derived.WalkKit
import Derived.WalkSpells
import Derived.WalkLawsBesides
import Derived.Deep.RegionHeld
namespace Go.Proofs.YtblappilppfkiaaDoor
open Go.RowKit
set_option linter.unusedVariables false
/- Products of 128 bits of numbers that are not below 0. -/
theorem mulI_any (x y : Int) (h1 : 0 ≤ x) (h2 : x ≤ 4000000000000) (h3 : 0 ≤ y) (h4 : y ≤ 4000000000000) (w : World) :
    Calls Tryd.prog 72 #[.int .u64 x, .int .u64 y] w fun e w' => e = .returned (.tuple #[.int .u64 (x * y / 18446744073709551616), .int .u64 (x * y % 18446744073709551616)]) ∧ w = w' := by
  obtain ⟨X, rfl⟩ := Int.eq_ofNat_of_zero_le h1
  obtain ⟨Y, rfl⟩ := Int.eq_ofNat_of_zero_le h3
  have h := mul64_any X Y (by omega) (by omega) w
  have e1 : ((X * Y / 18446744073709551616 : Nat) : Int) = (X : Int) * (Y : Int) / 18446744073709551616 := by rw [Int.natCast_ediv, Int.natCast_mul]; rfl
  have e2 : ((X * Y % 18446744073709551616 : Nat) : Int) = (X : Int) * (Y : Int) % 18446744073709551616 := by rw [Int.natCast_emod, Int.natCast_mul]; rfl
  rw [e1, e2] at h
  exact h
theorem or_cmp (x y : Int) : orI (sgn (x / 18446744073709551616 - y / 18446744073709551616)) (sgn (x % 18446744073709551616 - y % 18446744073709551616)) = sgn (x - y) := by
  rcases Int.lt_trichotomy (x / 18446744073709551616) (y / 18446744073709551616) with h | h | h
  · rw [sgn_neg (show x / 18446744073709551616 - y / 18446744073709551616 < 0 by omega), orI_n _ (by decide), sgn_neg (by omega)]
  · rw [sgn_zero (show x / 18446744073709551616 - y / 18446744073709551616 = 0 by omega), orI_0]
    congr 1
    omega
  · rw [sgn_pos (show 0 < x / 18446744073709551616 - y / 18446744073709551616 by omega), orI_n _ (by decide), sgn_pos (by omega)]
set_option maxHeartbeats 4000000 in
theorem byWhole_any (a b p q : Int) (w : World) (ha : -4000000000000 ≤ a ∧ a ≤ 4000000000000) (hb : 1 ≤ b ∧ b ≤ 4000000000000) (hp : -4000000000000 ≤ p ∧ p ≤ 4000000000000) (hq : 1 ≤ q ∧ q ≤ 4000000000000) : Calls Tryd.prog 54 #[.agg #[.int .i64 a, .int .i64 b], .agg #[.int .i64 p, .int .i64 q]] w fun e w' => e = .returned (.int .i64 (sgn (a / b - p / q))) ∧ Below w.heap.size w w' := by
  have A := Below.nw w (.cells #[.int .i64 a, .int .i64 b] 27); have A2 := Below.nw (w.alloc (.cells #[.int .i64 a, .int .i64 b] 27)) (.cells #[.int .i64 p, .int .i64 q] 27); have N := (Bx2.new w (.int .i64 a) (.int .i64 b) 27).below A2; have Q := Bx2.new (w.alloc (.cells #[.int .i64 a, .int .i64 b] 27)) (.int .i64 p) (.int .i64 q) 27; simp only [World.size_alloc] at Q; have B := A.trans (A2.mono A.size); clear A A2
  have D1 := fun w' => divided_any a b w' (by omega) (by omega) (by omega) (by omega)
  have D2 := fun w' => divided_any p q w' (by omega) (by omega) (by omega) (by omega)
  generalize a / b = x at *
  generalize p / q = y at *
  go_enter Tryd.func54, Tryd.ntmps54
  go_upto_region 1 with fail
  generalize (w.alloc (.cells #[.int .i64 a, .int .i64 b] 27)).alloc (.cells #[.int .i64 p, .int .i64 q] 27) = v at *
  obtain ⟨n0, n1, n2, n3, n4⟩ := id N; obtain ⟨m0, m1, m2, m3, m4⟩ := id Q
  go_wp2_with fail
  refine (D1 _).mono ?_
  rintro e v2 ⟨rfl, hbl⟩
  clear n0 n1 n2 n3 n4 m0 m1 m2 m3 m4
  replace N := N.below hbl; replace Q := Q.below hbl; replace B := B.trans (hbl.mono B.size); clear hbl
  obtain ⟨n0, n1, n2, n3, n4⟩ := id N; obtain ⟨m0, m1, m2, m3, m4⟩ := id Q
  go_wp2_with fail
  refine (D2 _).mono ?_
  rintro e v3 ⟨rfl, hbl⟩
  clear n0 n1 n2 n3 n4 m0 m1 m2 m3 m4
  replace N := N.below hbl; replace Q := Q.below hbl; replace B := B.trans (hbl.mono B.size); clear hbl
  go_wp2_with fail
  refine (cmpInt_any _ _ _).mono ?_
  rintro e w' ⟨rfl, rfl⟩
  go_wp2_with fail
  go_ret
  exact ⟨rfl, B⟩
theorem rest_in {a b : Int} (hb : 1 ≤ b ∧ b ≤ 4000000000000) : 0 ≤ a % b ∧ a % b ≤ 4000000000000 := by
  have h1 := Int.emod_nonneg a (b := b) (by omega)
  have h2 := Int.emod_lt_of_pos a (b := b) (by omega)
  omega
theorem wrap_u {x : Int} (h : 0 ≤ x ∧ x ≤ 4000000000000) : IntKind.u64.wrap x = x := by rw [IntKind.wrap_u64]; omega
set_option maxHeartbeats 4000000 in
theorem byRest_any (a b p q : Int) (w : World) (ha : -4000000000000 ≤ a ∧ a ≤ 4000000000000) (hb : 1 ≤ b ∧ b ≤ 4000000000000) (hp : -4000000000000 ≤ p ∧ p ≤ 4000000000000) (hq : 1 ≤ q ∧ q ≤ 4000000000000) : Calls Tryd.prog 55 #[.agg #[.int .i64 a, .int .i64 b], .agg #[.int .i64 p, .int .i64 q]] w fun e w' => e = .returned (.int .i64 (sgn (a % b * q - p % q * b))) ∧ Below w.heap.size w w' := by
  have A := Below.nw w (.cells #[.int .i64 a, .int .i64 b] 27); have A2 := Below.nw (w.alloc (.cells #[.int .i64 a, .int .i64 b] 27)) (.cells #[.int .i64 p, .int .i64 q] 27); have N := (Bx2.new w (.int .i64 a) (.int .i64 b) 27).below A2; have Q := Bx2.new (w.alloc (.cells #[.int .i64 a, .int .i64 b] 27)) (.int .i64 p) (.int .i64 q) 27; simp only [World.size_alloc] at Q; have B := A.trans (A2.mono A.size); clear A A2
  have D1 := fun w' => divided_any a b w' (by omega) (by omega) (by omega) (by omega)
  have D2 := fun w' => divided_any p q w' (by omega) (by omega) (by omega) (by omega)
  have r1 := rest_in (a := a) hb
  have r2 := rest_in (a := p) hq
  have u1 := wrap_u r1
  have u2 := wrap_u r2
  have u3 := wrap_u (x := b) ⟨by omega, by omega⟩
  have u4 := wrap_u (x := q) ⟨by omega, by omega⟩
  have M1 := fun w' => mulI_any (a % b) q r1.1 r1.2 (by omega) (by omega) w'
  have M2 := fun w' => mulI_any (p % q) b r2.1 r2.2 (by omega) (by omega) w'
  rw [← or_cmp]
  generalize a / b = x at *
  generalize p / q = y at *
  generalize a % b = r at *
  generalize p % q = s at *
  generalize r * q / 18446744073709551616 = h1 at *
  generalize r * q % 18446744073709551616 = l1 at *
  generalize s * b / 18446744073709551616 = h2 at *
  generalize s * b % 18446744073709551616 = l2 at *
  have c1 := fun w' => cmpU_any h1 h2 w'
  have c2 := fun w' => cmpU_any l1 l2 w'
  generalize sgn (h1 - h2) = s1 at *
  generalize sgn (l1 - l2) = s2 at *
  go_enter Tryd.func55, Tryd.ntmps55
  go_upto_region 1 with fail
  generalize (w.alloc (.cells #[.int .i64 a, .int .i64 b] 27)).alloc (.cells #[.int .i64 p, .int .i64 q] 27) = v at *
  obtain ⟨n0, n1, n2, n3, n4⟩ := id N; obtain ⟨m0, m1, m2, m3, m4⟩ := id Q
  go_wp2_with fail
  refine (D1 _).mono ?_
  rintro e v2 ⟨rfl, hbl⟩
  clear n0 n1 n2 n3 n4 m0 m1 m2 m3 m4
  replace N := N.below hbl; replace Q := Q.below hbl; replace B := B.trans (hbl.mono B.size); clear hbl
  obtain ⟨n0, n1, n2, n3, n4⟩ := id N; obtain ⟨m0, m1, m2, m3, m4⟩ := id Q
  go_wp2_with fail
  refine (D2 _).mono ?_
  rintro e v3 ⟨rfl, hbl⟩
  clear n0 n1 n2 n3 n4 m0 m1 m2 m3 m4
  replace N := N.below hbl; replace Q := Q.below hbl; replace B := B.trans (hbl.mono B.size); clear hbl
  obtain ⟨n0, n1, n2, n3, n4⟩ := id N; obtain ⟨m0, m1, m2, m3, m4⟩ := id Q
  go_wp2_with fail
  refine (M1 _).mono ?_
  rintro e w' ⟨rfl, rfl⟩
  go_wp2_with fail
  refine (M2 _).mono ?_
  rintro e w' ⟨rfl, rfl⟩
  go_wp2_with fail
  refine (c1 _).mono ?_
  rintro e w' ⟨rfl, rfl⟩
  go_wp2_with fail
  refine (c2 _).mono ?_
  rintro e w' ⟨rfl, rfl⟩
  go_wp2_with fail
  refine (cmpOr_any _ s1 s2 _ (by simp) (by simp)).mono ?_
  rintro e w' ⟨rfl, rfl⟩
  go_wp2_with fail
  go_ret
  exact ⟨rfl, B.trans ((Below.nw _ _).mono B.size)⟩
end Go.Proofs.YtblappilppfkiaaDoor
