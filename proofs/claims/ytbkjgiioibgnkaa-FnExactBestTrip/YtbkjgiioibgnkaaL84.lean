/- The walk of the exact law of BestTrip. -/
import Derived.Test.YtbkjgiioibgnkaaR87
import Derived.WalkKit
import Derived.WalkSpells
import Derived.WalkLawsBesides
import Derived.Deep.RegionHeld
namespace Go.Proofs.Ytbkjgiioibgnkaa
open Go.RowKit
set_option linter.unusedVariables false
set_option maxRecDepth 100000 in
set_option maxHeartbeats 4000000 in
theorem lawBestTrip (n d : Int) (a : Option Addr) (m c : Nat) (M : Nat → TpT) (w : World) (wn : (Lit.int .i64 n).wf = true) (wd : (Lit.int .i64 d).wf = true) (hm : m ≤ maxLen) (hs : SrcC w a (m * 5) (MFTrip M)) (hst : ∀ i, i < m → (Lit.int .i64 (M i).1).wf = true) :
    Calls Try.prog 8 #[.agg #[.int .i64 n, .int .i64 d], .slice a m c] w fun e w' => e = .returned (.bool true) ∧ Below w.heap.size w w' := by
  clear wn wd hst
  have Q := Bx.new w n d 23
  have B : Below w.heap.size w (w.alloc (.cells #[.int .i64 n, .int .i64 d] 23)) := Below.alc _ _
  have S := Hd.mk (hs.below (Below.alc w (.cells #[.int .i64 n, .int .i64 d] 23)))
  clear hs
  have hm2 := hm
  unfold maxLen at hm2
  go_enter Try.func8, Try.ntmps8
  go_wp2_with fail
  refine (szTripS_any a m c 1048576 _ hm (by decide) (by decide)).mono ?_
  rintro e v ⟨rfl, rfl⟩
  by_cases hL : (m : Int) ≤ 1048576
  · rw [if_pos hL]
    have d0 : decide ((1048576 : Int) - (m : Int) < 0) = false := by simp; omega
    have hn : m ≤ 1048576 := by omega
    obtain ⟨b0, b1, b2, b3, b4⟩ := id Q
    go_wp2_with fail
    refine (toDrift_any _ _ _).mono ?_
    rintro e v ⟨rfl, hb⟩
    clear b0 b1 b2 b3 b4
    replace Q := Q.below hb; replace S := Hd.mk (S.out.below hb); replace B := B.trans (hb.mono B.size)
    clear hb
    go_wp2_with fail
    refine (toTripS_any a m c M _ hn S.out).mono ?_
    rintro e v1 ⟨rfl, row, hb⟩
    replace Q := Q.below hb; replace S := Hd.mk (S.out.below hb); replace B := B.trans (hb.mono B.size)
    clear hb
    go_wp2_with fail
    refine (specBestTrip_any (some ⟨v.heap.size, 0, none⟩) m m n d M _ hm (.inr ⟨_, _, rfl, row.cs (Nat.le_refl _)⟩)).mono ?_
    rintro e v2 ⟨rfl, hb⟩
    replace Q := Q.below hb; replace S := Hd.mk (S.out.below hb); replace B := B.trans (hb.mono B.size)
    clear hb row
    go_wp2_with fail
    refine (toTripS_any a m c M _ hn S.out).mono ?_
    rintro e v3 ⟨rfl, row, hb⟩
    replace Q := Q.below hb; replace S := Hd.mk (S.out.below hb); replace B := B.trans (hb.mono B.size)
    clear hb
    obtain ⟨b0, b1, b2, b3, b4⟩ := id Q
    go_wp2_with fail
    refine (toDrift_any _ _ _).mono ?_
    rintro e v4 ⟨rfl, hb⟩
    clear b0 b1 b2 b3 b4
    replace Q := Q.below hb; replace S := Hd.mk (S.out.below hb); replace B := B.trans (hb.mono B.size)
    replace row := row.below' hb
    clear hb
    go_wp2_with fail
    refine (implBestTrip_any (some ⟨v2.heap.size, 0, none⟩) m m n d M _ hm (.inr ⟨_, _, rfl, row.cs (Nat.le_refl _)⟩)).mono ?_
    rintro e v5 ⟨rfl, hb⟩
    replace Q := Q.below hb; replace S := Hd.mk (S.out.below hb); replace B := B.trans (hb.mono B.size)
    replace row := row.below' hb
    clear hb
    generalize btI n d M m = Z at *
    go_wp2_with fail
    refine (toTripS_any a m c M _ hn S.out).mono ?_
    rintro e v6 ⟨rfl, row2, hb⟩
    replace Q := Q.below hb; replace S := Hd.mk (S.out.below hb); replace B := B.trans (hb.mono B.size)
    replace row := row.below' hb
    clear hb
    go_wp2_with fail
    refine (eqTripS_src (some ⟨v2.heap.size, 0, none⟩) (some ⟨v5.heap.size, 0, none⟩) m m m M _ hm (.inr ⟨_, _, rfl, row.cs (Nat.le_refl _)⟩) (.inr ⟨_, _, rfl, row2.cs (Nat.le_refl _)⟩)).mono ?_
    rintro e v7 ⟨rfl, hb⟩
    replace Q := Q.below hb; replace S := Hd.mk (S.out.below hb); replace B := B.trans (hb.mono B.size)
    clear hb row row2
    go_wp2_with fail
    go_ret
    exact ⟨rfl, B⟩
  · rw [if_neg hL]
    go_wp2_with fail
    go_ret
    exact ⟨rfl, B⟩
end Go.Proofs.Ytbkjgiioibgnkaa
