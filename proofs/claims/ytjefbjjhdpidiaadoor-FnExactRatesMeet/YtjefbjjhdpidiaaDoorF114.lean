/- FracCmp in the specification. -/
import Derived.Test.YtjefbjjhdpidiaaDoorF113
import Derived.WalkKit
import Derived.WalkSpells
import Derived.WalkLawsBesides
import Derived.Deep.RegionHeld
namespace Go.Proofs.YtjefbjjhdpidiaaDoor
open Go.RowKit
set_option linter.unusedVariables false
def fcI (a b p q : Int) : Int := if (okF a b && okF p q) = true then cmpF a b p q else 0
theorem fcI_t {a b p q : Int} (h1 : okF a b = true) (h2 : okF p q = true) : fcI a b p q = cmpF a b p q := if_pos (by rw [h1, h2]; rfl)
theorem fcI_1 {a b p q : Int} (h1 : okF a b = false) : fcI a b p q = 0 := if_neg (by rw [h1]; simp)
theorem fcI_2 {a b p q : Int} (h2 : okF p q = false) : fcI a b p q = 0 := if_neg (by rw [h2]; simp)
set_option maxHeartbeats 4000000 in
theorem specFracCmp_any (a b p q : Int) (w : World) : Calls Tryd.prog 17 #[.agg #[.int .i64 a, .int .i64 b], .agg #[.int .i64 p, .int .i64 q]] w fun e w' => e = .returned (.int .i64 (fcI a b p q)) ∧ Below w.heap.size w w' := by
  have A := Below.nw w (.cells #[.int .i64 a, .int .i64 b] 25)
  have A2 := Below.nw (w.alloc (.cells #[.int .i64 a, .int .i64 b] 25)) (.cells #[.int .i64 p, .int .i64 q] 25)
  have N := (Bx2.new w (.int .i64 a) (.int .i64 b) 25).below A2
  have Q := Bx2.new (w.alloc (.cells #[.int .i64 a, .int .i64 b] 25)) (.int .i64 p) (.int .i64 q) 25
  simp only [World.size_alloc] at Q
  have B := A.trans (A2.mono A.size)
  clear A A2
  cases h1 : okF a b
  · rw [fcI_1 h1]
    go_enter Tryd.func17, Tryd.ntmps17
    go_upto_region 1 with fail
    generalize (w.alloc (.cells #[.int .i64 a, .int .i64 b] 25)).alloc (.cells #[.int .i64 p, .int .i64 q] 25) = v at *
    obtain ⟨n0, n1, n2, n3, n4⟩ := id N
    go_wp2_with fail
    refine (specFracOk_any _ _ _).mono ?_
    rintro e v2 ⟨rfl, hb⟩
    rw [h1]
    go_wp2_with fail
    go_ret
    exact ⟨rfl, B.trans (hb.mono B.size)⟩
  cases h2 : okF p q
  · rw [fcI_2 h2]
    go_enter Tryd.func17, Tryd.ntmps17
    go_upto_region 1 with fail
    generalize (w.alloc (.cells #[.int .i64 a, .int .i64 b] 25)).alloc (.cells #[.int .i64 p, .int .i64 q] 25) = v at *
    obtain ⟨n0, n1, n2, n3, n4⟩ := id N
    go_wp2_with fail
    refine (specFracOk_any _ _ _).mono ?_
    rintro e v2 ⟨rfl, hb⟩
    rw [h1]
    replace Q := Q.below hb
    replace B := B.trans (hb.mono B.size)
    clear hb n0 n1 n2 n3 n4
    obtain ⟨m0, m1, m2, m3, m4⟩ := id Q
    go_wp2_with fail
    refine (specFracOk_any _ _ _).mono ?_
    rintro e v3 ⟨rfl, hb⟩
    rw [h2]
    go_wp2_with fail
    go_ret
    exact ⟨rfl, B.trans (hb.mono B.size)⟩
  rw [fcI_t h1 h2]
  obtain ⟨k1, k2, _⟩ := okF_t h1
  obtain ⟨k3, k4, _⟩ := okF_t h2
  have CC := fun w' => l11Cmp_any a b p q w' k1 ⟨by omega, by omega⟩ k3 ⟨by omega, by omega⟩
  go_enter Tryd.func17, Tryd.ntmps17
  go_upto_region 1 with fail
  generalize (w.alloc (.cells #[.int .i64 a, .int .i64 b] 25)).alloc (.cells #[.int .i64 p, .int .i64 q] 25) = v at *
  obtain ⟨n0, n1, n2, n3, n4⟩ := id N
  go_wp2_with fail
  refine (specFracOk_any _ _ _).mono ?_
  rintro e v2 ⟨rfl, hb⟩
  rw [h1]
  clear n0 n1 n2 n3 n4
  replace N := N.below hb
  replace Q := Q.below hb
  replace B := B.trans (hb.mono B.size)
  clear hb
  obtain ⟨m0, m1, m2, m3, m4⟩ := id Q
  go_wp2_with fail
  refine (specFracOk_any _ _ _).mono ?_
  rintro e v3 ⟨rfl, hb⟩
  rw [h2]
  clear m0 m1 m2 m3 m4
  replace N := N.below hb
  replace Q := Q.below hb
  replace B := B.trans (hb.mono B.size)
  clear hb
  obtain ⟨n0, n1, n2, n3, n4⟩ := id N
  obtain ⟨m0, m1, m2, m3, m4⟩ := id Q
  go_wp2_with fail
  refine (CC _).mono ?_
  rintro e w' ⟨rfl, rfl⟩
  go_wp2_with fail
  go_ret
  exact ⟨rfl, B⟩
end Go.Proofs.YtjefbjjhdpidiaaDoor
