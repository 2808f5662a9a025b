/- Contracts of MarksOk and MarksAll. -/
import Derived.Test.YtdgfneloaopleaaM3
import Derived.Test.YtdgfneloaopleaaM4
import Derived.Test.YtdgfneloaopleaaM5
import Derived.Test.YtdgfneloaopleaaS8
import Derived.WalkKit
import Derived.WalkSpells
import Derived.WalkLawsBesides
import Derived.Deep.RegionHeld
namespace Go.Proofs.Ytdgfneloaopleaa
open Go.RowKit
set_option linter.unusedVariables false
theorem mrB_bad {n d : Int} {f : Nat → Int × Int} {m back : Nat} (h : (okD n d && decide (1 ≤ m ∧ m ≤ 201)) = false) : mrB n d f m back = false := mrB_k (by simp only [mkB, h, Bool.false_and])
theorem mk_in {n d : Int} {m : Nat} (h : (okD n d && decide (1 ≤ m ∧ m ≤ 201)) = true) : okD n d = true ∧ 1 ≤ m ∧ m ≤ 201 := by simpa using h
theorem specMarksOk_any (n d : Int) (a : Option Addr) (m c : Nat) (f : Nat → Int × Int) (w : World) (hm : m ≤ maxLen) (hs : Src w a m f) :
    Calls Try.prog 35 #[.agg #[.int .i64 n, .int .i64 d], .slice a m c] w fun e w' => e = .returned (.bool (mrB n d f m 1)) ∧ Below w.heap.size w w' := by
  cases h : okD n d && decide (1 ≤ m ∧ m ≤ 201)
  · rw [mrB_bad h]; exact specMarksOk_bad n d a m c w hm h
  · have ⟨h1, h2, h3⟩ := mk_in h
    rcases hs with h0 | ⟨b, off, rfl, hp⟩
    · omega
    · exact specMarksOk_some n d b off m c f w h1 h2 h3 hp
theorem specMarksAll_any (n d : Int) (a : Option Addr) (m c : Nat) (f : Nat → Int × Int) (w : World) (hm : m ≤ maxLen) (hs : Src w a m f) :
    Calls Try.prog 17 #[.agg #[.int .i64 n, .int .i64 d], .slice a m c] w fun e w' => e = .returned (.bool (mrB n d f m m)) ∧ Below w.heap.size w w' := by
  cases h : okD n d && decide (1 ≤ m ∧ m ≤ 201)
  · rw [mrB_bad h]; exact specMarksAll_bad n d a m c w hm h
  · have ⟨h1, h2, h3⟩ := mk_in h
    rcases hs with h0 | ⟨b, off, rfl, hp⟩
    · omega
    · exact specMarksAll_some n d b off m c f w h1 h2 h3 hp
theorem mayStand_any (n d : Int) (a : Option Addr) (m c : Nat) (f : Nat → Int × Int) (bk : Nat) (w : World) (hm : m ≤ c) (hc : c ≤ maxLen) (hk : 1 ≤ m → 1 ≤ bk) (hk2 : m ≤ 201 → bk ≤ 1000) (hs : Src w a m f) :
    Calls Try.prog 33 #[.agg #[.int .i64 n, .int .i64 d], .slice a m c, .int .i64 bk] w fun e w' => e = .returned (.bool (mrB n d f m bk)) ∧ Below w.heap.size w w' := by
  cases h : okD n d && decide (1 ≤ m ∧ m ≤ 201)
  · rw [mrB_bad h]; exact mayStand_bad n d a m c bk w (Nat.le_trans hm hc) h
  · have ⟨h1, h2, h3⟩ := mk_in h
    rcases hs with h0 | ⟨b, off, rfl, hp⟩
    · omega
    · exact mayStand_some n d b off m c f bk w h1 h2 h3 hm hc (hk h2) (hk2 h3) hp
set_option maxHeartbeats 400000 in
theorem implMarksOk_any (n d : Int) (a : Option Addr) (m c : Nat) (f : Nat → Int × Int) (w : World) (hm : m ≤ c) (hc : c ≤ maxLen) (hs : Src w a m f) :
    Calls Try.prog 10 #[.agg #[.int .i64 n, .int .i64 d], .slice a m c] w fun e w' => e = .returned (.bool (mrB n d f m 1)) ∧ Below w.heap.size w w' := by
  have B0 := Below.alc w (.cells #[.int .i64 n, .int .i64 d] 25)
  have HS : Hid (Src (w.alloc (.cells #[.int .i64 n, .int .i64 d] 25)) a m f) := hs.below B0
  clear hs
  go_enter Try.func10, Try.ntmps10
  go_wp2_with fail
  refine (mayStand_any n d a m c f 1 _ hm hc (fun _ => Nat.le_refl _) (fun _ => by omega) HS.out).mono ?_
  rintro e w1 ⟨rfl, hb⟩
  have B1 := B0.trans (hb.mono B0.size)
  clear hb
  go_wp2_with fail
  go_ret
  exact ⟨rfl, B1⟩
set_option maxHeartbeats 400000 in
theorem implMarksAll_any (n d : Int) (a : Option Addr) (m c : Nat) (f : Nat → Int × Int) (w : World) (hm : m ≤ c) (hc : c ≤ maxLen) (hs : Src w a m f) :
    Calls Try.prog 11 #[.agg #[.int .i64 n, .int .i64 d], .slice a m c] w fun e w' => e = .returned (.bool (mrB n d f m m)) ∧ Below w.heap.size w w' := by
  have B0 := Below.alc w (.cells #[.int .i64 n, .int .i64 d] 25)
  have HS : Hid (Src (w.alloc (.cells #[.int .i64 n, .int .i64 d] 25)) a m f) := hs.below B0
  clear hs
  go_enter Try.func11, Try.ntmps11
  go_wp2_with fail
  refine (mayStand_any n d a m c f m _ hm hc id (fun _ => by omega) HS.out).mono ?_
  rintro e w1 ⟨rfl, hb⟩
  have B1 := B0.trans (hb.mono B0.size)
  clear hb
  go_wp2_with fail
  go_ret
  exact ⟨rfl, B1⟩
end Go.Proofs.Ytdgfneloaopleaa
