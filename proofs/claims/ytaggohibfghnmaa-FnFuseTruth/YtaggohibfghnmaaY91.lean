/- The draw of a list of sources. -/
import Derived.Test.YtaggohibfghnmaaX90
import Derived.Test.YtaggohibfghnmaaD3
import Derived.Test.YtaggohibfghnmaaW2
import Derived.Deep.QuietTactic
import Derived.BigQuiet
import Derived.WalkKit
import Derived.WalkSpells
import Derived.WalkLawsBesides
import Derived.Deep.RegionHeld
namespace Go.Proofs.Ytaggohibfghnmaa
open Go.RowKit
set_option linter.unusedVariables false
theorem But.grown {p : Nat} {w w' : World} (h : But p w w') : w.grownBy w' (some p) := ⟨h.1, h.2.1, h.2.2.1, h.2.2.2.1, fun k hk hp => h.2.2.2.2 k hk (fun e => hp (by rw [e]))⟩
theorem own_but {w w' : World} {base p : Nat} {e : TypeId} {size : Nat} {v : Value} {n : Nat} {xs : List Value} (h : w.ownsRow base e size v n xs) (hb : But p w w') (hp : p < base) : w'.ownsRow base e size v n xs :=
  h.kept hb.grown (by
    cases hv : v.ownBlock with
    | none => exact .inl rfl
    | some g => exact .inr (fun he => by have := (h.lt g hv).1; simp at he; omega))
theorem CurOk.belowB {w w' : World} {B p base : Nat} (h : CurOk w B p) (hb : Below base w w') (hp : p < base) : CurOk w' B p := by
  obtain ⟨a, n, c, i, hh, h0, h1, h2, f0, f1, f2, hi, hn, hc, hB, hpw⟩ := h
  refine ⟨a, n, c, i, hh, ?_, ?_, ?_, ?_, ?_, ?_, hi, hn, hc.below (hb.mono (by omega)), hB, Nat.lt_of_lt_of_le hpw hb.size⟩
  · rw [hb.cell (p := ⟨p, 0, none⟩) hp]; exact h0
  · rw [hb.cell (p := ⟨p, 1, none⟩) hp]; exact h1
  · rw [hb.cell (p := ⟨p, 2, none⟩) hp]; exact h2
  · rw [hb.frozen (p := ⟨p, 0, none⟩) hp]; exact f0
  · rw [hb.frozen (p := ⟨p, 1, none⟩) hp]; exact f1
  · rw [hb.frozen (p := ⟨p, 2, none⟩) hp]; exact f2
theorem But.thenBelow {p : Nat} {a w w' : World} (h : But p a w) (hb : Below a.heap.size w w') : But p a w' :=
  ⟨hb.os.trans h.1, hb.tape.trans h.2.1, hb.output.trans h.2.2.1, Nat.le_trans h.2.2.2.1 hb.size, fun k hk hp => (hb.block k hk).trans (h.2.2.2.2 k hk hp)⟩
set_option maxHeartbeats 400000 in
theorem l1Size12 (a : Option Addr) (n c : Nat) (w : World) (hn : n ≤ 1048576) :
    Calls Try.prog 30 #[.slice a n c, .int .i64 12] w fun e w' => ∃ x : Int, e = .returned (.int .i64 x) ∧ 0 ≤ x ∧ x ≤ 12 ∧ w = w' := by
  have hq : (n : Int).tdiv 20 = (n : Int) / 20 := Int.tdiv_eq_ediv_of_nonneg (by omega)
  go_enter Try.func30, Try.ntmps30
  go_wp2
  all_goals go_ret
  all_goals exact ⟨_, rfl, by omega, by omega, rfl⟩
set_option maxRecDepth 100000 in
set_option maxHeartbeats 8000000 in
theorem l9DrawList_any (B p : Nat) (most : Int) (w : World) (hcur : CurOk w B p) (h0 : 0 ≤ most) (h1 : most ≤ 12) :
    Calls Try.prog 29 #[.pointer (some ⟨p, 0, none⟩), .int .i64 most] w fun e w' => ∃ v : Value, ∃ L : List (Int × Int), e = .returned v ∧ w'.ownsRow w.heap.size 25 2 v L.length (prs L) ∧ L.length ≤ 100 ∧ CurOk w' B p ∧ But p w w' := by
  obtain ⟨i0, hi, hz0, hz1, hz2⟩ := info_parts infoIval
  have hpl := hcur.lt
  go_enter Try.func29, Try.ntmps29
  go_wp2_with fail
  refine (l1Once_any B p _ _ hcur).mono ?_
  rintro e w1 ⟨o, rfl, w1c, w1b⟩
  cases o
  · go_wp2_with fail
    refine (l1Min_any _ _ _).mono ?_
    rintro e w' ⟨rfl, rfl⟩
    have hmn : 0 ≤ imn most 12 ∧ imn most 12 ≤ 12 := by unfold imn; split <;> omega
    generalize imn most 12 = mo at *
    go_wp2_with fail
    refine (l1Below_any B p _ _ w1c).mono ?_
    rintro e w2 ⟨x, rfl, xl, xh, xp, xz, w2c, w2b⟩
    have hx := xp (by omega)
    have xh' : x ≤ 100 := by omega
    clear xp xz
    go_wp2_with fail
    refine (l1Below_any B p _ _ w2c).mono ?_
    rintro e w3 ⟨mid, rfl, md1, md2, md3, md4, w3c, w3b⟩
    clear md1 md2 md3 md4
    go_wp2_with fail
    refine (l1Once_any B p _ _ w3c).mono ?_
    rintro e w4 ⟨o, rfl, w4c, w4b⟩
    have b4 : But p w w4 := ((w1b.trans w2b).trans w3b).trans w4b
    clear w1b w2b w3b w4b w1c w2c w3c hcur
    cases o
    · skip
      have b2' : But p w (w4.alloc (.cells #[] 25)) := b4.alloc _
      have hown0 : (w4.alloc (.cells #[] 25)).ownsRow w.heap.size 25 2 (.slice (some ⟨w4.heap.size, 0, none⟩) 0 0) 0 [] := World.ownsRow_made w4 #[] 0 b4.2.2.2.1 (by simp [maxLen]) (by simp)
      have w2c' : CurOk (w4.alloc (.cells #[] 25)) B p := w4c.below (Below.al _ _)
      clear b4 w4c
      go_wp2_with fail
      go_loopw [10, 11] (fun v i wr => ∃ L : List (Int × Int), (L.length : Int) ≤ x ∧ i = .int .i64 L.length ∧ wr.ownsRow w.heap.size 25 2 v L.length (prs L) ∧ CurOk wr B p ∧ But p w wr) (fun _ i _ => x.toNat - (intOf i).toNat)
      case atStart => exact ⟨[], by simpa using xl, rfl, hown0, w2c', b2'⟩
      case round =>
        obtain ⟨L, hk, rfl, hown, wrc, wrb⟩ := hrel
        clear hown0 w2c' b2'
        by_cases hlt : (L.length : Int) < x
        · go_wp2_with fail
          refine (l1Below_any B p _ _ wrc).mono ?_
          rintro e w3 ⟨y, rfl, yl, yh, yp, yz, w3c, w3b⟩
          have o3 := own_but hown w3b (by omega)
          have b3 : But p w w3 := wrb.trans w3b
          clear yp yz hown wrc wrb w3b
          go_wp2_with fail
          refine (l1Below_any B p _ _ w3c).mono ?_
          rintro e w4 ⟨z, rfl, zl, zh, zp, zz, w4c, w4b⟩
          have o4 := own_but o3 w4b (by omega)
          have b4 : But p w w4 := b3.trans w4b
          clear zp zz o3 b3 w3c w4b
          go_wp2_with fail
          refine (l1Told_any _ _ _).mono ?_
          rintro e w5 ⟨rfl, w5b⟩
          have o5 := own_below o4 w5b
          have b5 : But p w w5 := b4.trans (But.of_below w5b)
          have w5c : CurOk w5 B p := w4c.below w5b
          clear o4 b4 w4c w5b
          generalize wrap64 (wrap64 (mid - y) + z) = hi' at *
          generalize wrap64 (mid - y) = lo' at *
          have hkp : w5.heap.size ≠ p := by have := w5c.lt; omega
          have hBk : B ≤ w5.heap.size := by have := w5c.lt; omega
          have hwk : w.heap.size ≤ w5.heap.size := b5.2.2.2.1
          have hne : ∀ g, u10.ownBlock = some g → g ≠ w5.heap.size := fun g hg => by have := (o5.lt g hg).2; omega
          cases hok : okI lo' hi'
          · have A5 := Below.al w5 (.cells #[.int .i64 (sel false lo'), .int .i64 (sel false hi')] 25)
            have N5 := Box.new w5 (sel false lo') (sel false hi') 25
            have w5c' := w5c.below A5
            have b5' := b5.alloc (.cells #[.int .i64 (sel false lo'), .int .i64 (sel false hi')] 25)
            have o5' := World.ownsRow.alloc o5 (.cells #[.int .i64 (sel false lo'), .int .i64 (sel false hi')] 25)
            clear w5c b5 o5
            go_wp2_with fail
            refine (l1DrawIval_any B p _ w5c').mono ?_
            rintro e w7 ⟨xx, yy, rfl, w7c, w7b⟩
            have o7 := own_but o5' w7b (by omega)
            have b7 : But p w w7 := But.trans b5' w7b
            have N7 := Box.but N5 w7b hkp
            have o8 := own_set (own_set o7 hne 0 (.int .i64 xx)) hne 1 (.int .i64 yy)
            have w8c := (w7c.setOther hkp hBk 0 (.int .i64 xx)).setOther hkp hBk 1 (.int .i64 yy)
            have b8 := (b7.setNew hwk 0 (.int .i64 xx)).setNew hwk 1 (.int .i64 yy)
            obtain ⟨g1, g2, g3, g4, g5⟩ := N7
            clear o7 b7 w7c w7b
            go_wp2_with (at_builtin; refine wpList_append_own _ rfl _ _ 26 rfl w.heap.size 25 i0 (.agg #[.int .i64 0, .int .i64 0]) 2 16 Try.underlying26 hi hz0 hz1 hz2 rfl (by decide) _ _ _ rfl (World.ownsRow.alloc o8 _) ⟨w7.heap.size, 0, none⟩ 1 1 [.int .i64 xx, .int .i64 yy] rfl rfl ?c1 ?c2 ?c3 ?c4 ?c5 ?_)
            case c1 => intro j u hj; (have h := pair_at ((w7.setCell ⟨w5.heap.size, 0, none⟩ (.int .i64 xx)).setCell ⟨w5.heap.size, 1, none⟩ (.int .i64 yy)) _ _ 25 j u hj); (try simp only [World.size_setCell] at h); exact h
            case c2 => intro u hu; simp at hu; rcases hu with rfl | rfl <;> rfl
            case c3 => unfold maxLen; omega
            case c4 => omega
            case c5 => have := b8.2.2.2.1; simp at this ⊢; omega
            · intro v' w9 hown' hgrow _
              have A9 := Below.al ((w7.setCell ⟨w5.heap.size, 0, none⟩ (.int .i64 xx)).setCell ⟨w5.heap.size, 1, none⟩ (.int .i64 yy)) (.cells #[.int .i64 xx, .int .i64 yy] 25)
              have hsz : w.heap.size ≤ (World.alloc ((w7.setCell ⟨w5.heap.size, 0, none⟩ (.int .i64 xx)).setCell ⟨w5.heap.size, 1, none⟩ (.int .i64 yy)) (.cells #[.int .i64 xx, .int .i64 yy] 25)).heap.size := by have := b8.2.2.2.1; simp at this ⊢; omega
              have G9 := grown_below (World.ownsRow.alloc o8 _) hgrow hsz
              have w9c : CurOk w9 B p := CurOk.belowB (CurOk.below w8c A9) G9 (by omega)
              have b9 : But p w w9 := But.thenBelow (But.alloc b8 _) G9
              have R9 : w9.ownsRow w.heap.size 25 2 v' (L ++ [(xx, yy)]).length (prs (L ++ [(xx, yy)])) := by rw [prs_add]; simpa using hown'
              clear hown' hgrow G9 A9 hsz
              go_wp2
              go_roundw
              case rel => exact ⟨L ++ [(xx, yy)], by simp; omega, by simp; try go_num, R9, w9c, b9⟩
              case measure => simp [intOf]; omega
          · have A5 := Below.al w5 (.cells #[.int .i64 (sel true lo'), .int .i64 (sel true hi')] 25)
            have N5 := Box.new w5 (sel true lo') (sel true hi') 25
            have w5c' := w5c.below A5
            have b5' := b5.alloc (.cells #[.int .i64 (sel true lo'), .int .i64 (sel true hi')] 25)
            have o5' := World.ownsRow.alloc o5 (.cells #[.int .i64 (sel true lo'), .int .i64 (sel true hi')] 25)
            clear w5c b5 o5
            go_wp2_with fail
            refine (l1Once_any B p _ _ w5c').mono ?_
            rintro e w6 ⟨oo, rfl, w6c, w6b⟩
            have o6 := own_but o5' w6b (by omega)
            have b6 : But p w w6 := But.trans b5' w6b
            have N6 := N5.but w6b hkp
            clear o5' b5' N5 w5c' w6b A5
            cases oo
            · obtain ⟨g1, g2, g3, g4, g5⟩ := id N6
              go_wp2_with (at_builtin; refine wpList_append_own _ rfl _ _ 26 rfl w.heap.size 25 i0 (.agg #[.int .i64 0, .int .i64 0]) 2 16 Try.underlying26 hi hz0 hz1 hz2 rfl (by decide) _ _ _ rfl (World.ownsRow.alloc o6 _) ⟨w6.heap.size, 0, none⟩ 1 1 [.int .i64 (sel true lo'), .int .i64 (sel true hi')] rfl rfl ?c1 ?c2 ?c3 ?c4 ?c5 ?_)
              case c1 => intro j u hj; (have h := pair_at w6 _ _ 25 j u hj); (try simp only [World.size_setCell] at h); exact h
              case c2 => intro u hu; simp at hu; rcases hu with rfl | rfl <;> rfl
              case c3 => unfold maxLen; omega
              case c4 => omega
              case c5 => have := b6.2.2.2.1; simp at this ⊢; omega
              · intro v' w9 hown' hgrow _
                have A9 := Below.al w6 (.cells #[.int .i64 (sel true lo'), .int .i64 (sel true hi')] 25)
                have hsz : w.heap.size ≤ (World.alloc w6 (.cells #[.int .i64 (sel true lo'), .int .i64 (sel true hi')] 25)).heap.size := by have := b6.2.2.2.1; simp at this ⊢; omega
                have G9 := grown_below (World.ownsRow.alloc o6 _) hgrow hsz
                have w9c : CurOk w9 B p := CurOk.belowB (CurOk.below w6c A9) G9 (by omega)
                have b9 : But p w w9 := But.thenBelow (But.alloc b6 _) G9
                have R9 : w9.ownsRow w.heap.size 25 2 v' (L ++ [((sel true lo'), (sel true hi'))]).length (prs (L ++ [((sel true lo'), (sel true hi'))])) := by rw [prs_add]; simpa using hown'
                clear hown' hgrow G9 A9 hsz
                go_wp2
                go_roundw
                case rel => exact ⟨L ++ [((sel true lo'), (sel true hi'))], by simp; omega, by simp; try go_num, R9, w9c, b9⟩
                case measure => simp [intOf]; omega
            · go_wp2_with fail
              refine (l1DrawIval_any B p _ w6c).mono ?_
              rintro e w7 ⟨xx, yy, rfl, w7c, w7b⟩
              have o7 := own_but o6 w7b (by omega)
              have b7 : But p w w7 := But.trans b6 w7b
              have N7 := Box.but N6 w7b hkp
              have o8 := own_set (own_set o7 hne 0 (.int .i64 xx)) hne 1 (.int .i64 yy)
              have w8c := (w7c.setOther hkp hBk 0 (.int .i64 xx)).setOther hkp hBk 1 (.int .i64 yy)
              have b8 := (b7.setNew hwk 0 (.int .i64 xx)).setNew hwk 1 (.int .i64 yy)
              obtain ⟨g1, g2, g3, g4, g5⟩ := N7
              clear o7 b7 w7c w7b
              go_wp2_with (at_builtin; refine wpList_append_own _ rfl _ _ 26 rfl w.heap.size 25 i0 (.agg #[.int .i64 0, .int .i64 0]) 2 16 Try.underlying26 hi hz0 hz1 hz2 rfl (by decide) _ _ _ rfl (World.ownsRow.alloc o8 _) ⟨w7.heap.size, 0, none⟩ 1 1 [.int .i64 xx, .int .i64 yy] rfl rfl ?c1 ?c2 ?c3 ?c4 ?c5 ?_)
              case c1 => intro j u hj; (have h := pair_at ((w7.setCell ⟨w5.heap.size, 0, none⟩ (.int .i64 xx)).setCell ⟨w5.heap.size, 1, none⟩ (.int .i64 yy)) _ _ 25 j u hj); (try simp only [World.size_setCell] at h); exact h
              case c2 => intro u hu; simp at hu; rcases hu with rfl | rfl <;> rfl
              case c3 => unfold maxLen; omega
              case c4 => omega
              case c5 => have := b8.2.2.2.1; simp at this ⊢; omega
              · intro v' w9 hown' hgrow _
                have A9 := Below.al ((w7.setCell ⟨w5.heap.size, 0, none⟩ (.int .i64 xx)).setCell ⟨w5.heap.size, 1, none⟩ (.int .i64 yy)) (.cells #[.int .i64 xx, .int .i64 yy] 25)
                have hsz : w.heap.size ≤ (World.alloc ((w7.setCell ⟨w5.heap.size, 0, none⟩ (.int .i64 xx)).setCell ⟨w5.heap.size, 1, none⟩ (.int .i64 yy)) (.cells #[.int .i64 xx, .int .i64 yy] 25)).heap.size := by have := b8.2.2.2.1; simp at this ⊢; omega
                have G9 := grown_below (World.ownsRow.alloc o8 _) hgrow hsz
                have w9c : CurOk w9 B p := CurOk.belowB (CurOk.below w8c A9) G9 (by omega)
                have b9 : But p w w9 := But.thenBelow (But.alloc b8 _) G9
                have R9 : w9.ownsRow w.heap.size 25 2 v' (L ++ [(xx, yy)]).length (prs (L ++ [(xx, yy)])) := by rw [prs_add]; simpa using hown'
                clear hown' hgrow G9 A9 hsz
                go_wp2
                go_roundw
                case rel => exact ⟨L ++ [(xx, yy)], by simp; omega, by simp; try go_num, R9, w9c, b9⟩
                case measure => simp [intOf]; omega
        · go_wp2_with fail
          go_ret
          exact ⟨u10, rfl, L, hown, by omega, wrc, wrb⟩
    · go_wp2_with fail
      have hp := pickLit B p w4 [999999999995, -999999999960] w4c (by decide) (by decide)
      simp only [List.map_cons, List.map_nil, List.length_cons, List.length_nil, Nat.zero_add, Nat.reduceAdd] at hp
      refine hp.mono ?_
      clear hp
      rintro e w5 ⟨mid2, rfl, w5c, w5b⟩
      have b5 : But p w w5 := b4.trans w5b
      clear b4 w5b w4c
      have b2' : But p w (w5.alloc (.cells #[] 25)) := b5.alloc _
      have hown0 : (w5.alloc (.cells #[] 25)).ownsRow w.heap.size 25 2 (.slice (some ⟨w5.heap.size, 0, none⟩) 0 0) 0 [] := World.ownsRow_made w5 #[] 0 b5.2.2.2.1 (by simp [maxLen]) (by simp)
      have w2c' : CurOk (w5.alloc (.cells #[] 25)) B p := w5c.below (Below.al _ _)
      clear b5 w5c
      go_wp2_with fail
      go_loopw [10, 11] (fun v i wr => ∃ L : List (Int × Int), (L.length : Int) ≤ x ∧ i = .int .i64 L.length ∧ wr.ownsRow w.heap.size 25 2 v L.length (prs L) ∧ CurOk wr B p ∧ But p w wr) (fun _ i _ => x.toNat - (intOf i).toNat)
      case atStart => exact ⟨[], by simpa using xl, rfl, hown0, w2c', b2'⟩
      case round =>
        obtain ⟨L, hk, rfl, hown, wrc, wrb⟩ := hrel
        clear hown0 w2c' b2'
        by_cases hlt : (L.length : Int) < x
        · go_wp2_with fail
          refine (l1Below_any B p _ _ wrc).mono ?_
          rintro e w3 ⟨y, rfl, yl, yh, yp, yz, w3c, w3b⟩
          have o3 := own_but hown w3b (by omega)
          have b3 : But p w w3 := wrb.trans w3b
          clear yp yz hown wrc wrb w3b
          go_wp2_with fail
          refine (l1Below_any B p _ _ w3c).mono ?_
          rintro e w4 ⟨z, rfl, zl, zh, zp, zz, w4c, w4b⟩
          have o4 := own_but o3 w4b (by omega)
          have b4 : But p w w4 := b3.trans w4b
          clear zp zz o3 b3 w3c w4b
          go_wp2_with fail
          refine (l1Told_any _ _ _).mono ?_
          rintro e w5 ⟨rfl, w5b⟩
          have o5 := own_below o4 w5b
          have b5 : But p w w5 := b4.trans (But.of_below w5b)
          have w5c : CurOk w5 B p := w4c.below w5b
          clear o4 b4 w4c w5b
          generalize wrap64 (wrap64 (mid2 - y) + z) = hi' at *
          generalize wrap64 (mid2 - y) = lo' at *
          have hkp : w5.heap.size ≠ p := by have := w5c.lt; omega
          have hBk : B ≤ w5.heap.size := by have := w5c.lt; omega
          have hwk : w.heap.size ≤ w5.heap.size := b5.2.2.2.1
          have hne : ∀ g, u10.ownBlock = some g → g ≠ w5.heap.size := fun g hg => by have := (o5.lt g hg).2; omega
          cases hok : okI lo' hi'
          · have A5 := Below.al w5 (.cells #[.int .i64 (sel false lo'), .int .i64 (sel false hi')] 25)
            have N5 := Box.new w5 (sel false lo') (sel false hi') 25
            have w5c' := w5c.below A5
            have b5' := b5.alloc (.cells #[.int .i64 (sel false lo'), .int .i64 (sel false hi')] 25)
            have o5' := World.ownsRow.alloc o5 (.cells #[.int .i64 (sel false lo'), .int .i64 (sel false hi')] 25)
            clear w5c b5 o5
            go_wp2_with fail
            refine (l1DrawIval_any B p _ w5c').mono ?_
            rintro e w7 ⟨xx, yy, rfl, w7c, w7b⟩
            have o7 := own_but o5' w7b (by omega)
            have b7 : But p w w7 := But.trans b5' w7b
            have N7 := Box.but N5 w7b hkp
            have o8 := own_set (own_set o7 hne 0 (.int .i64 xx)) hne 1 (.int .i64 yy)
            have w8c := (w7c.setOther hkp hBk 0 (.int .i64 xx)).setOther hkp hBk 1 (.int .i64 yy)
            have b8 := (b7.setNew hwk 0 (.int .i64 xx)).setNew hwk 1 (.int .i64 yy)
            obtain ⟨g1, g2, g3, g4, g5⟩ := N7
            clear o7 b7 w7c w7b
            go_wp2_with (at_builtin; refine wpList_append_own _ rfl _ _ 26 rfl w.heap.size 25 i0 (.agg #[.int .i64 0, .int .i64 0]) 2 16 Try.underlying26 hi hz0 hz1 hz2 rfl (by decide) _ _ _ rfl (World.ownsRow.alloc o8 _) ⟨w7.heap.size, 0, none⟩ 1 1 [.int .i64 xx, .int .i64 yy] rfl rfl ?c1 ?c2 ?c3 ?c4 ?c5 ?_)
            case c1 => intro j u hj; (have h := pair_at ((w7.setCell ⟨w5.heap.size, 0, none⟩ (.int .i64 xx)).setCell ⟨w5.heap.size, 1, none⟩ (.int .i64 yy)) _ _ 25 j u hj); (try simp only [World.size_setCell] at h); exact h
            case c2 => intro u hu; simp at hu; rcases hu with rfl | rfl <;> rfl
            case c3 => unfold maxLen; omega
            case c4 => omega
            case c5 => have := b8.2.2.2.1; simp at this ⊢; omega
            · intro v' w9 hown' hgrow _
              have A9 := Below.al ((w7.setCell ⟨w5.heap.size, 0, none⟩ (.int .i64 xx)).setCell ⟨w5.heap.size, 1, none⟩ (.int .i64 yy)) (.cells #[.int .i64 xx, .int .i64 yy] 25)
              have hsz : w.heap.size ≤ (World.alloc ((w7.setCell ⟨w5.heap.size, 0, none⟩ (.int .i64 xx)).setCell ⟨w5.heap.size, 1, none⟩ (.int .i64 yy)) (.cells #[.int .i64 xx, .int .i64 yy] 25)).heap.size := by have := b8.2.2.2.1; simp at this ⊢; omega
              have G9 := grown_below (World.ownsRow.alloc o8 _) hgrow hsz
              have w9c : CurOk w9 B p := CurOk.belowB (CurOk.below w8c A9) G9 (by omega)
              have b9 : But p w w9 := But.thenBelow (But.alloc b8 _) G9
              have R9 : w9.ownsRow w.heap.size 25 2 v' (L ++ [(xx, yy)]).length (prs (L ++ [(xx, yy)])) := by rw [prs_add]; simpa using hown'
              clear hown' hgrow G9 A9 hsz
              go_wp2
              go_roundw
              case rel => exact ⟨L ++ [(xx, yy)], by simp; omega, by simp; try go_num, R9, w9c, b9⟩
              case measure => simp [intOf]; omega
          · have A5 := Below.al w5 (.cells #[.int .i64 (sel true lo'), .int .i64 (sel true hi')] 25)
            have N5 := Box.new w5 (sel true lo') (sel true hi') 25
            have w5c' := w5c.below A5
            have b5' := b5.alloc (.cells #[.int .i64 (sel true lo'), .int .i64 (sel true hi')] 25)
            have o5' := World.ownsRow.alloc o5 (.cells #[.int .i64 (sel true lo'), .int .i64 (sel true hi')] 25)
            clear w5c b5 o5
            go_wp2_with fail
            refine (l1Once_any B p _ _ w5c').mono ?_
            rintro e w6 ⟨oo, rfl, w6c, w6b⟩
            have o6 := own_but o5' w6b (by omega)
            have b6 : But p w w6 := But.trans b5' w6b
            have N6 := N5.but w6b hkp
            clear o5' b5' N5 w5c' w6b A5
            cases oo
            · obtain ⟨g1, g2, g3, g4, g5⟩ := id N6
              go_wp2_with (at_builtin; refine wpList_append_own _ rfl _ _ 26 rfl w.heap.size 25 i0 (.agg #[.int .i64 0, .int .i64 0]) 2 16 Try.underlying26 hi hz0 hz1 hz2 rfl (by decide) _ _ _ rfl (World.ownsRow.alloc o6 _) ⟨w6.heap.size, 0, none⟩ 1 1 [.int .i64 (sel true lo'), .int .i64 (sel true hi')] rfl rfl ?c1 ?c2 ?c3 ?c4 ?c5 ?_)
              case c1 => intro j u hj; (have h := pair_at w6 _ _ 25 j u hj); (try simp only [World.size_setCell] at h); exact h
              case c2 => intro u hu; simp at hu; rcases hu with rfl | rfl <;> rfl
              case c3 => unfold maxLen; omega
              case c4 => omega
              case c5 => have := b6.2.2.2.1; simp at this ⊢; omega
              · intro v' w9 hown' hgrow _
                have A9 := Below.al w6 (.cells #[.int .i64 (sel true lo'), .int .i64 (sel true hi')] 25)
                have hsz : w.heap.size ≤ (World.alloc w6 (.cells #[.int .i64 (sel true lo'), .int .i64 (sel true hi')] 25)).heap.size := by have := b6.2.2.2.1; simp at this ⊢; omega
                have G9 := grown_below (World.ownsRow.alloc o6 _) hgrow hsz
                have w9c : CurOk w9 B p := CurOk.belowB (CurOk.below w6c A9) G9 (by omega)
                have b9 : But p w w9 := But.thenBelow (But.alloc b6 _) G9
                have R9 : w9.ownsRow w.heap.size 25 2 v' (L ++ [((sel true lo'), (sel true hi'))]).length (prs (L ++ [((sel true lo'), (sel true hi'))])) := by rw [prs_add]; simpa using hown'
                clear hown' hgrow G9 A9 hsz
                go_wp2
                go_roundw
                case rel => exact ⟨L ++ [((sel true lo'), (sel true hi'))], by simp; omega, by simp; try go_num, R9, w9c, b9⟩
                case measure => simp [intOf]; omega
            · go_wp2_with fail
              refine (l1DrawIval_any B p _ w6c).mono ?_
              rintro e w7 ⟨xx, yy, rfl, w7c, w7b⟩
              have o7 := own_but o6 w7b (by omega)
              have b7 : But p w w7 := But.trans b6 w7b
              have N7 := Box.but N6 w7b hkp
              have o8 := own_set (own_set o7 hne 0 (.int .i64 xx)) hne 1 (.int .i64 yy)
              have w8c := (w7c.setOther hkp hBk 0 (.int .i64 xx)).setOther hkp hBk 1 (.int .i64 yy)
              have b8 := (b7.setNew hwk 0 (.int .i64 xx)).setNew hwk 1 (.int .i64 yy)
              obtain ⟨g1, g2, g3, g4, g5⟩ := N7
              clear o7 b7 w7c w7b
              go_wp2_with (at_builtin; refine wpList_append_own _ rfl _ _ 26 rfl w.heap.size 25 i0 (.agg #[.int .i64 0, .int .i64 0]) 2 16 Try.underlying26 hi hz0 hz1 hz2 rfl (by decide) _ _ _ rfl (World.ownsRow.alloc o8 _) ⟨w7.heap.size, 0, none⟩ 1 1 [.int .i64 xx, .int .i64 yy] rfl rfl ?c1 ?c2 ?c3 ?c4 ?c5 ?_)
              case c1 => intro j u hj; (have h := pair_at ((w7.setCell ⟨w5.heap.size, 0, none⟩ (.int .i64 xx)).setCell ⟨w5.heap.size, 1, none⟩ (.int .i64 yy)) _ _ 25 j u hj); (try simp only [World.size_setCell] at h); exact h
              case c2 => intro u hu; simp at hu; rcases hu with rfl | rfl <;> rfl
              case c3 => unfold maxLen; omega
              case c4 => omega
              case c5 => have := b8.2.2.2.1; simp at this ⊢; omega
              · intro v' w9 hown' hgrow _
                have A9 := Below.al ((w7.setCell ⟨w5.heap.size, 0, none⟩ (.int .i64 xx)).setCell ⟨w5.heap.size, 1, none⟩ (.int .i64 yy)) (.cells #[.int .i64 xx, .int .i64 yy] 25)
                have hsz : w.heap.size ≤ (World.alloc ((w7.setCell ⟨w5.heap.size, 0, none⟩ (.int .i64 xx)).setCell ⟨w5.heap.size, 1, none⟩ (.int .i64 yy)) (.cells #[.int .i64 xx, .int .i64 yy] 25)).heap.size := by have := b8.2.2.2.1; simp at this ⊢; omega
                have G9 := grown_below (World.ownsRow.alloc o8 _) hgrow hsz
                have w9c : CurOk w9 B p := CurOk.belowB (CurOk.below w8c A9) G9 (by omega)
                have b9 : But p w w9 := But.thenBelow (But.alloc b8 _) G9
                have R9 : w9.ownsRow w.heap.size 25 2 v' (L ++ [(xx, yy)]).length (prs (L ++ [(xx, yy)])) := by rw [prs_add]; simpa using hown'
                clear hown' hgrow G9 A9 hsz
                go_wp2
                go_roundw
                case rel => exact ⟨L ++ [(xx, yy)], by simp; omega, by simp; try go_num, R9, w9c, b9⟩
                case measure => simp [intOf]; omega
        · go_wp2_with fail
          go_ret
          exact ⟨u10, rfl, L, hown, by omega, wrc, wrb⟩
  · have b2' : But p w (w1.alloc (.cells #[] 25)) := w1b.alloc _
    have hown0 : (w1.alloc (.cells #[] 25)).ownsRow w.heap.size 25 2 (.slice (some ⟨w1.heap.size, 0, none⟩) 0 0) 0 [] := World.ownsRow_made w1 #[] 0 w1b.2.2.2.1 (by simp [maxLen]) (by simp)
    have w2c' : CurOk (w1.alloc (.cells #[] 25)) B p := w1c.below (Below.al _ _)
    clear w1c w1b hcur
    go_wp2_with fail
    go_loopw [5, 6] (fun v i wr => ∃ L : List (Int × Int), L.length ≤ 13 ∧ i = .int .i64 L.length ∧ wr.ownsRow w.heap.size 25 2 v L.length (prs L) ∧ CurOk wr B p ∧ But p w wr) (fun _ i _ => 14 - (intOf i).toNat)
    case atStart => exact ⟨[], by simp, rfl, hown0, w2c', b2'⟩
    case round =>
      obtain ⟨L, hk, rfl, hown, wrc, wrb⟩ := hrel
      clear hown0 w2c' b2'
      go_wp2_with fail
      refine (l1Below_any _ p _ _ wrc).mono ?_
      rintro e w3 ⟨x, rfl, xl, xh, xp, xz, w3c, w3b⟩
      have hx := xp (by omega)
      have o3 := own_but hown w3b (by omega)
      have b3 : But p w w3 := wrb.trans w3b
      clear xp xz hown wrc wrb w3b
      by_cases hlt : (L.length : Int) < 12 + x
      · go_wp2_with fail
        refine (l1Below_any _ p _ _ w3c).mono ?_
        rintro e w4 ⟨y, rfl, yl, yh, yp, yz, w4c, w4b⟩
        have o4 := own_but o3 w4b (by omega)
        have b4 : But p w w4 := b3.trans w4b
        have hy := yp (by omega)
        clear yp yz o3 b3 w3c w4b
        go_wp2_with fail
        refine (l1Below_any _ p _ _ w4c).mono ?_
        rintro e w5 ⟨z, rfl, zl, zh, zp, zz, w5c, w5b⟩
        have o5 := own_but o4 w5b (by omega)
        have b5 : But p w w5 := b4.trans w5b
        have hz := zp (by omega)
        clear zp zz o4 b4 w4c w5b
        have hws : w.heap.size ≤ w5.heap.size := b5.2.2.2.1
        go_wp2_with (at_builtin; refine wpList_append_own _ rfl _ _ 26 rfl w.heap.size 25 i0 (.agg #[.int .i64 0, .int .i64 0]) 2 16 Try.underlying26 hi hz0 hz1 hz2 rfl (by decide) _ _ _ rfl (World.ownsRow.alloc o5 _) ⟨w5.heap.size, 0, none⟩ 1 1 [.int .i64 y, .int .i64 (y + z)] rfl rfl (fun j u hj => pair_at w5 _ _ 25 j u hj) (by intro u hu; simp at hu; rcases hu with rfl | rfl <;> rfl) (by unfold maxLen; omega) (by omega) (by simp; omega) ?_; intro v' w9 hown' hgrow _)
        have A9 := Below.al w5 (.cells #[.int .i64 y, .int .i64 (y + z)] 25)
        have hsz : w.heap.size ≤ (World.alloc w5 (.cells #[.int .i64 y, .int .i64 (y + z)] 25)).heap.size := by simp; omega
        have G9 := grown_below (World.ownsRow.alloc o5 _) hgrow hsz
        have w9c : CurOk w9 B p := CurOk.belowB (CurOk.below w5c A9) G9 (by omega)
        have b9 : But p w w9 := But.thenBelow (But.alloc b5 _) G9
        have R9 : w9.ownsRow w.heap.size 25 2 v' (L ++ [(y, y + z)]).length (prs (L ++ [(y, y + z)])) := by rw [prs_add]; simpa using hown'
        clear hown' hgrow G9 A9 hsz
        go_wp2
        go_roundw
        case rel => exact ⟨L ++ [(y, y + z)], by simp; omega, by simp; try go_num, R9, w9c, b9⟩
        case measure => simp [intOf]; omega
      · have hd : decide ((L.length : Int) < 12 + x) = false := by simp; omega
        go_wp2_with fail
        go_ret
        exact ⟨u5, L, rfl, o3, by omega, w3c, b3⟩
set_option maxHeartbeats 1000000 in
theorem l9DrawK_any (a : Option Addr) (n c : Nat) (w : World) (hn : n ≤ 1048576) (hcode : CodeB w w.heap.size a n) :
    Calls Try.prog 40 #[.slice a n c] w fun e w' => ∃ v : Value, ∃ L : List (Int × Int), ∃ k : Int, e = .returned (.tuple #[v, .int .i64 k]) ∧ w'.ownsRow w.heap.size 25 2 v L.length (prs L) ∧ L.length ≤ 100 ∧ 0 ≤ k ∧ k ≤ 4294967295 ∧ Below w.heap.size w w' := by
  have HC : Hid (CodeB w w.heap.size a n) := hcode
  clear hcode
  go_enter Try.func40, Try.ntmps40
  go_wp2_with fail
  refine (l1New_any a n c _ hn HC.out).mono ?_
  rintro e w1 ⟨p, rfl, w1c, w1b⟩
  have q1 := w1c.lt
  go_wp2_with fail
  refine (l1Size12 _ _ _ _ hn).mono ?_
  rintro e w' ⟨x, rfl, x0, x1, rfl⟩
  go_wp2_with fail
  refine (l9DrawList_any _ p _ _ w1c x0 x1).mono ?_
  rintro e w2 ⟨v, L, rfl, o2, hL, w2c, w2b⟩
  have b2 : Below w.heap.size w w2 := w1b.trans (w2b.below (by omega) w1b.size)
  obtain ⟨a2, c2, rfl, hc2, hcm, -⟩ := own_src o2
  have q2 := w2c.lt
  go_wp2_with fail
  refine (l1Below_any _ p _ _ w2c).mono ?_
  rintro e w3 ⟨k, rfl, kl, kh, _, _, w3c, w3b⟩
  have o3 := own_but o2 w3b (by omega)
  have b3 : Below w.heap.size w w3 := b2.trans (w3b.below (by omega) b2.size)
  go_wp2_with fail
  go_ret2
  exact ⟨_, L, k, rfl, own_base o3 w1b.size, hL, kl, kh, b3⟩
set_option maxHeartbeats 400000 in
theorem DrawHullOf_any (a : Option Addr) (n c : Nat) (w : World) (hn : n ≤ 1048576) (hcode : CodeB w w.heap.size a n) :
    Calls Try.prog 13 #[.slice a n c] w fun e w' => ∃ v : Value, ∃ L : List (Int × Int), ∃ k : Int, e = .returned (.tuple #[v, .int .i64 k]) ∧ w'.ownsRow w.heap.size 25 2 v L.length (prs L) ∧ L.length ≤ 100 ∧ 0 ≤ k ∧ k ≤ 4294967295 ∧ Below w.heap.size w w' := by
  go_enter Try.func13, Try.ntmps13
  go_wp2_with fail
  refine (l9DrawK_any a n c _ hn hcode).mono ?_
  rintro e w1 ⟨v, L, k, rfl, o, hL, k0, k1, b⟩
  go_wp2_with fail
  go_ret2
  exact ⟨v, L, k, rfl, o, hL, k0, k1, b⟩
set_option maxHeartbeats 400000 in
theorem DrawCoverRuns_any (a : Option Addr) (n c : Nat) (w : World) (hn : n ≤ 1048576) (hcode : CodeB w w.heap.size a n) :
    Calls Try.prog 19 #[.slice a n c] w fun e w' => ∃ v : Value, ∃ L : List (Int × Int), ∃ k : Int, e = .returned (.tuple #[v, .int .i64 k]) ∧ w'.ownsRow w.heap.size 25 2 v L.length (prs L) ∧ L.length ≤ 100 ∧ 0 ≤ k ∧ k ≤ 4294967295 ∧ Below w.heap.size w w' := by
  go_enter Try.func19, Try.ntmps19
  go_wp2_with fail
  refine (l9DrawK_any a n c _ hn hcode).mono ?_
  rintro e w1 ⟨v, L, k, rfl, o, hL, k0, k1, b⟩
  go_wp2_with fail
  go_ret2
  exact ⟨v, L, k, rfl, o, hL, k0, k1, b⟩
end Go.Proofs.Ytaggohibfghnmaa
