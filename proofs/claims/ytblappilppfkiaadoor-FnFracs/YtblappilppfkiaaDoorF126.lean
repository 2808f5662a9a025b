/- The comparison of fractions of the program. -/
import Derived.Test.YtblappilppfkiaaDoorF125
import Derived.Test.YtblappilppfkiaaDoorF124
import Derived.Test.YtblappilppfkiaaDoorF114
import Derived.Handy
import Derived.WalkKit
import Derived.WalkSpells
import Derived.WalkLawsBesides
import Derived.Deep.RegionHeld
namespace Go.Proofs.YtblappilppfkiaaDoor
open Go.RowKit
set_option linter.unusedVariables false
theorem sgn_sub {x y : Int} : (x < y → sgn (x - y) = -1) ∧ (x = y → sgn (x - y) = 0) ∧ (y < x → sgn (x - y) = 1) := ⟨fun h => sgn_neg (by omega), fun h => sgn_zero (by omega), fun h => sgn_pos (by omega)⟩
theorem emod_left {a b : Int} : a - a / b * b = a % b := by
  have := Int.mul_ediv_add_emod a b
  rw [Int.mul_comm] at this
  omega
/- How the program's two comparisons in a row come to the order of fractions. -/
theorem row_cmp {a b p q : Int} (hb : 0 < b) (hq : 0 < q) : cmpF a b p q = orI (sgn (a / b - p / q)) (sgn (a % b * q - p % q * b)) := by
  rcases Int.lt_trichotomy (a / b) (p / q) with h | h | h
  · rw [cmp_less hb hq h, sgn_sub.1 h, orI_n _ (by decide)]
  · rw [cmp_same hb hq h, sgn_sub.2.1 h, orI_0, emod_left, emod_left]
  · rw [cmp_more hb hq h, sgn_sub.2.2 h, orI_n _ (by decide)]
theorem row_first (w : World) : (Instr.index 97 (.agg #[.func (.func 54) #[] #[], .func (.func 55) #[] #[]]) (.int .i64 0)).run Tryd.prog w = .ok (.func (.func 54) #[] #[]) w := by kernel_rfl
theorem row_second (w : World) : (Instr.index 97 (.agg #[.func (.func 54) #[] #[], .func (.func 55) #[] #[]]) (.int .i64 1)).run Tryd.prog w = .ok (.func (.func 55) #[] #[]) w := by kernel_rfl
set_option maxRecDepth 100000 in
set_option maxHeartbeats 4000000 in
theorem against_any (a b p q : Int) (w : World) (ha : -4000000000000 ≤ a ∧ a ≤ 4000000000000) (hb : 1 ≤ b ∧ b ≤ 4000000000000) (hp : -4000000000000 ≤ p ∧ p ≤ 4000000000000) (hq : 1 ≤ q ∧ q ≤ 4000000000000) : Calls Tryd.prog 33 #[.agg #[.int .i64 a, .int .i64 b], .agg #[.int .i64 p, .int .i64 q]] w fun e w' => e = .returned (.int .i64 (cmpF a b p q)) ∧ Below w.heap.size w w' := by
  have A := Below.nw w (.cells #[.int .i64 a, .int .i64 b] 27); have A2 := Below.nw (w.alloc (.cells #[.int .i64 a, .int .i64 b] 27)) (.cells #[.int .i64 p, .int .i64 q] 27); have N := (Bx2.new w (.int .i64 a) (.int .i64 b) 27).below A2; have Q := Bx2.new (w.alloc (.cells #[.int .i64 a, .int .i64 b] 27)) (.int .i64 p) (.int .i64 q) 27; simp only [World.size_alloc] at Q; have B := A.trans (A2.mono A.size); clear A A2
  rw [row_cmp (by omega) (by omega)]
  have C1 := fun w' => byWhole_any a b p q w' ha hb hp hq
  have C2 := fun w' => byRest_any a b p q w' ha hb hp hq
  have i1 := row_first
  have i2 := row_second
  generalize sgn (a / b - p / q) = x at *
  generalize sgn (a % b * q - p % q * b) = y at *
  by_cases hx : x = 0
  · subst hx
    rw [orI_0]
    by_cases hy : y = 0
    · subst hy
      go_enter Tryd.func33, Tryd.ntmps33
      go_upto_region 1 with fail
      generalize (w.alloc (.cells #[.int .i64 a, .int .i64 b] 27)).alloc (.cells #[.int .i64 p, .int .i64 q] 27) = v at *
      obtain ⟨n0, n1, n2, n3, n4⟩ := id N; obtain ⟨m0, m1, m2, m3, m4⟩ := id Q
      go_wp2_with fail
      refine wp_loop_rounds 3 ?_
      rw [rounds_succ]
      go_wp2_with fail
      refine (C1 _).mono ?_
      rintro e v2 ⟨rfl, hbl⟩
      clear n0 n1 n2 n3 n4 m0 m1 m2 m3 m4
      replace N := N.below hbl; replace Q := Q.below hbl; replace B := B.trans (hbl.mono B.size); clear hbl
      obtain ⟨n0, n1, n2, n3, n4⟩ := id N; obtain ⟨m0, m1, m2, m3, m4⟩ := id Q
      go_wp2_with fail
      rw [rounds_succ]
      go_wp2_with fail
      refine (C2 _).mono ?_
      rintro e v3 ⟨rfl, hbl⟩
      clear n0 n1 n2 n3 n4 m0 m1 m2 m3 m4
      replace N := N.below hbl; replace Q := Q.below hbl; replace B := B.trans (hbl.mono B.size); clear hbl
      go_wp2_with fail
      rw [rounds_succ]
      go_wp2_with fail
      go_ret
      exact ⟨rfl, B⟩
    · have hy' : (y != 0) = true := bne_iff_ne.2 hy
      go_enter Tryd.func33, Tryd.ntmps33
      go_upto_region 1 with fail
      generalize (w.alloc (.cells #[.int .i64 a, .int .i64 b] 27)).alloc (.cells #[.int .i64 p, .int .i64 q] 27) = v at *
      obtain ⟨n0, n1, n2, n3, n4⟩ := id N; obtain ⟨m0, m1, m2, m3, m4⟩ := id Q
      go_wp2_with fail
      refine wp_loop_rounds 3 ?_
      rw [rounds_succ]
      go_wp2_with fail
      refine (C1 _).mono ?_
      rintro e v2 ⟨rfl, hbl⟩
      clear n0 n1 n2 n3 n4 m0 m1 m2 m3 m4
      replace N := N.below hbl; replace Q := Q.below hbl; replace B := B.trans (hbl.mono B.size); clear hbl
      obtain ⟨n0, n1, n2, n3, n4⟩ := id N; obtain ⟨m0, m1, m2, m3, m4⟩ := id Q
      go_wp2_with fail
      rw [rounds_succ]
      go_wp2_with fail
      refine (C2 _).mono ?_
      rintro e v3 ⟨rfl, hbl⟩
      clear n0 n1 n2 n3 n4 m0 m1 m2 m3 m4
      replace N := N.below hbl; replace Q := Q.below hbl; replace B := B.trans (hbl.mono B.size); clear hbl
      go_wp2_with fail
      go_ret
      exact ⟨rfl, B⟩
  · rw [orI_n _ hx]
    have hx' : (x != 0) = true := bne_iff_ne.2 hx
    go_enter Tryd.func33, Tryd.ntmps33
    go_upto_region 1 with fail
    generalize (w.alloc (.cells #[.int .i64 a, .int .i64 b] 27)).alloc (.cells #[.int .i64 p, .int .i64 q] 27) = v at *
    obtain ⟨n0, n1, n2, n3, n4⟩ := id N; obtain ⟨m0, m1, m2, m3, m4⟩ := id Q
    go_wp2_with fail
    refine wp_loop_rounds 3 ?_
    rw [rounds_succ]
    go_wp2_with fail
    refine (C1 _).mono ?_
    rintro e v2 ⟨rfl, hbl⟩
    clear n0 n1 n2 n3 n4 m0 m1 m2 m3 m4
    replace N := N.below hbl; replace Q := Q.below hbl; replace B := B.trans (hbl.mono B.size); clear hbl
    go_wp2_with fail
    go_ret
    exact ⟨rfl, B⟩
set_option maxHeartbeats 4000000 in
theorem fbelow_any (a b p q : Int) (w : World) (ha : -4000000000000 ≤ a ∧ a ≤ 4000000000000) (hb : 1 ≤ b ∧ b ≤ 4000000000000) (hp : -4000000000000 ≤ p ∧ p ≤ 4000000000000) (hq : 1 ≤ q ∧ q ≤ 4000000000000) : Calls Tryd.prog 64 #[.agg #[.int .i64 a, .int .i64 b], .agg #[.int .i64 p, .int .i64 q]] w fun e w' => e = .returned (.bool (decide (cmpF a b p q < 0))) ∧ Below w.heap.size w w' := by
  have A := Below.nw w (.cells #[.int .i64 a, .int .i64 b] 27); have A2 := Below.nw (w.alloc (.cells #[.int .i64 a, .int .i64 b] 27)) (.cells #[.int .i64 p, .int .i64 q] 27); have N := (Bx2.new w (.int .i64 a) (.int .i64 b) 27).below A2; have Q := Bx2.new (w.alloc (.cells #[.int .i64 a, .int .i64 b] 27)) (.int .i64 p) (.int .i64 q) 27; simp only [World.size_alloc] at Q; have B := A.trans (A2.mono A.size); clear A A2
  have C1 := fun w' => against_any a b p q w' ha hb hp hq
  generalize cmpF a b p q = x at *
  go_enter Tryd.func64, Tryd.ntmps64
  go_upto_region 1 with fail
  generalize (w.alloc (.cells #[.int .i64 a, .int .i64 b] 27)).alloc (.cells #[.int .i64 p, .int .i64 q] 27) = v at *
  obtain ⟨n0, n1, n2, n3, n4⟩ := id N; obtain ⟨m0, m1, m2, m3, m4⟩ := id Q
  go_wp2_with fail
  refine (C1 _).mono ?_
  rintro e v2 ⟨rfl, hbl⟩
  clear n0 n1 n2 n3 n4 m0 m1 m2 m3 m4
  replace N := N.below hbl; replace Q := Q.below hbl; replace B := B.trans (hbl.mono B.size); clear hbl
  go_wp2_with fail
  go_ret
  exact ⟨rfl, B⟩
set_option maxHeartbeats 4000000 in
theorem fabove_any (a b p q : Int) (w : World) (ha : -4000000000000 ≤ a ∧ a ≤ 4000000000000) (hb : 1 ≤ b ∧ b ≤ 4000000000000) (hp : -4000000000000 ≤ p ∧ p ≤ 4000000000000) (hq : 1 ≤ q ∧ q ≤ 4000000000000) : Calls Tryd.prog 65 #[.agg #[.int .i64 a, .int .i64 b], .agg #[.int .i64 p, .int .i64 q]] w fun e w' => e = .returned (.bool (decide (0 < cmpF a b p q))) ∧ Below w.heap.size w w' := by
  have A := Below.nw w (.cells #[.int .i64 a, .int .i64 b] 27); have A2 := Below.nw (w.alloc (.cells #[.int .i64 a, .int .i64 b] 27)) (.cells #[.int .i64 p, .int .i64 q] 27); have N := (Bx2.new w (.int .i64 a) (.int .i64 b) 27).below A2; have Q := Bx2.new (w.alloc (.cells #[.int .i64 a, .int .i64 b] 27)) (.int .i64 p) (.int .i64 q) 27; simp only [World.size_alloc] at Q; have B := A.trans (A2.mono A.size); clear A A2
  have C1 := fun w' => against_any a b p q w' ha hb hp hq
  generalize cmpF a b p q = x at *
  go_enter Tryd.func65, Tryd.ntmps65
  go_upto_region 1 with fail
  generalize (w.alloc (.cells #[.int .i64 a, .int .i64 b] 27)).alloc (.cells #[.int .i64 p, .int .i64 q] 27) = v at *
  obtain ⟨n0, n1, n2, n3, n4⟩ := id N; obtain ⟨m0, m1, m2, m3, m4⟩ := id Q
  go_wp2_with fail
  refine (C1 _).mono ?_
  rintro e v2 ⟨rfl, hbl⟩
  clear n0 n1 n2 n3 n4 m0 m1 m2 m3 m4
  replace N := N.below hbl; replace Q := Q.below hbl; replace B := B.trans (hbl.mono B.size); clear hbl
  go_wp2_with fail
  go_ret
  exact ⟨rfl, B⟩
set_option maxHeartbeats 4000000 in
theorem implFracCmp_any (a b p q : Int) (u : Addr) (w : World) (E : Er w 0 u) : Calls Tryd.prog 13 #[.agg #[.int .i64 a, .int .i64 b], .agg #[.int .i64 p, .int .i64 q]] w fun e w' => e = .returned (.int .i64 (fcI a b p q)) ∧ Below w.heap.size w w' := by
  have A := Below.nw w (.cells #[.int .i64 a, .int .i64 b] 27); have A2 := Below.nw (w.alloc (.cells #[.int .i64 a, .int .i64 b] 27)) (.cells #[.int .i64 p, .int .i64 q] 27); have N := (Bx2.new w (.int .i64 a) (.int .i64 b) 27).below A2; have Q := Bx2.new (w.alloc (.cells #[.int .i64 a, .int .i64 b] 27)) (.int .i64 p) (.int .i64 q) 27; simp only [World.size_alloc] at Q; have B := A.trans (A2.mono A.size); clear A A2
  replace E := E.below B
  cases h1 : okF a b
  · rw [fcI_1 h1]
    go_enter Tryd.func13, Tryd.ntmps13
    go_upto_region 1 with fail
    generalize (w.alloc (.cells #[.int .i64 a, .int .i64 b] 27)).alloc (.cells #[.int .i64 p, .int .i64 q] 27) = v at *
    obtain ⟨n0, n1, n2, n3, n4⟩ := id N; obtain ⟨m0, m1, m2, m3, m4⟩ := id Q
    go_wp2_with fail
    refine (fracOk_any a b u _ E).mono ?_
    rintro e v2 ⟨rfl, hbl⟩
    rw [h1]
    clear n0 n1 n2 n3 n4 m0 m1 m2 m3 m4
    replace N := N.below hbl; replace Q := Q.below hbl; replace B := B.trans (hbl.mono B.size); clear hbl
    go_wp2_with fail
    go_ret
    exact ⟨rfl, B⟩
  cases h2 : okF p q
  · rw [fcI_2 h2]
    go_enter Tryd.func13, Tryd.ntmps13
    go_upto_region 1 with fail
    generalize (w.alloc (.cells #[.int .i64 a, .int .i64 b] 27)).alloc (.cells #[.int .i64 p, .int .i64 q] 27) = v at *
    obtain ⟨n0, n1, n2, n3, n4⟩ := id N; obtain ⟨m0, m1, m2, m3, m4⟩ := id Q
    go_wp2_with fail
    refine (fracOk_any a b u _ E).mono ?_
    rintro e v2 ⟨rfl, hbl⟩
    rw [h1]
    clear n0 n1 n2 n3 n4 m0 m1 m2 m3 m4
    replace E := E.below hbl
    replace N := N.below hbl; replace Q := Q.below hbl; replace B := B.trans (hbl.mono B.size); clear hbl
    obtain ⟨n0, n1, n2, n3, n4⟩ := id N; obtain ⟨m0, m1, m2, m3, m4⟩ := id Q
    go_wp2_with fail
    refine (fracOk_any p q u _ E).mono ?_
    rintro e v3 ⟨rfl, hbl⟩
    rw [h2]
    clear n0 n1 n2 n3 n4 m0 m1 m2 m3 m4
    replace N := N.below hbl; replace Q := Q.below hbl; replace B := B.trans (hbl.mono B.size); clear hbl
    go_wp2_with fail
    go_ret
    exact ⟨rfl, B⟩
  rw [fcI_t h1 h2]
  obtain ⟨k1, k2, _⟩ := okF_t h1
  obtain ⟨k3, k4, _⟩ := okF_t h2
  have CC := fun w' => against_any a b p q w' k1 k2 k3 k4
  generalize cmpF a b p q = x at *
  go_enter Tryd.func13, Tryd.ntmps13
  go_upto_region 1 with fail
  generalize (w.alloc (.cells #[.int .i64 a, .int .i64 b] 27)).alloc (.cells #[.int .i64 p, .int .i64 q] 27) = v at *
  obtain ⟨n0, n1, n2, n3, n4⟩ := id N; obtain ⟨m0, m1, m2, m3, m4⟩ := id Q
  go_wp2_with fail
  refine (fracOk_any a b u _ E).mono ?_
  rintro e v2 ⟨rfl, hbl⟩
  rw [h1]
  clear n0 n1 n2 n3 n4 m0 m1 m2 m3 m4
  replace E := E.below hbl
  replace N := N.below hbl; replace Q := Q.below hbl; replace B := B.trans (hbl.mono B.size); clear hbl
  obtain ⟨n0, n1, n2, n3, n4⟩ := id N; obtain ⟨m0, m1, m2, m3, m4⟩ := id Q
  go_wp2_with fail
  refine (fracOk_any p q u _ E).mono ?_
  rintro e v3 ⟨rfl, hbl⟩
  rw [h2]
  clear n0 n1 n2 n3 n4 m0 m1 m2 m3 m4
  replace N := N.below hbl; replace Q := Q.below hbl; replace B := B.trans (hbl.mono B.size); clear hbl
  obtain ⟨n0, n1, n2, n3, n4⟩ := id N; obtain ⟨m0, m1, m2, m3, m4⟩ := id Q
  go_wp2_with fail
  refine (CC _).mono ?_
  rintro e v4 ⟨rfl, hbl⟩
  clear n0 n1 n2 n3 n4 m0 m1 m2 m3 m4
  replace N := N.below hbl; replace Q := Q.below hbl; replace B := B.trans (hbl.mono B.size); clear hbl
  go_wp2_with fail
  go_ret
  exact ⟨rfl, B⟩
end Go.Proofs.YtblappilppfkiaaDoor
