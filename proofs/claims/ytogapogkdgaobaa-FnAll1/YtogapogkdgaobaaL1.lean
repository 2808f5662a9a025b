/- What the draw of a list of intervals leaves: a row of pairs in memory of its own. -/
import Derived.Test.YtogapogkdgaobaaD3
import Derived.Test.YtogapogkdgaobaaW2
import Derived.WalkKit
import Derived.WalkSpells
import Derived.WalkLawsBesides
import Derived.Deep.QuietTactic
import Derived.BigQuiet
namespace Go.Proofs.Ytogapogkdgaobaa
open Go.RowKit
set_option linter.unusedVariables false
def prs (L : List (Int × Int)) : List Value := L.flatMap fun p => [.int .i64 p.1, .int .i64 p.2]
theorem prs_add (L : List (Int × Int)) (x y : Int) : prs (L ++ [(x, y)]) = prs L ++ [.int .i64 x, .int .i64 y] := by simp [prs]
theorem But.grown {p : Nat} {w w' : World} (h : But p w w') : w.grownBy w' (some p) := ⟨h.1, h.2.1, h.2.2.1, h.2.2.2.1, fun k hk hp => h.2.2.2.2 k hk (fun e => hp (by rw [e]))⟩
theorem own_but {w w' : World} {base p : Nat} {e : TypeId} {size : Nat} {v : Value} {n : Nat} {xs : List Value} (h : w.ownsRow base e size v n xs) (hb : But p w w') (hp : p < base) : w'.ownsRow base e size v n xs :=
  h.kept hb.grown (by
    cases hv : v.ownBlock with
    | none => exact .inl rfl
    | some g => exact .inr (fun he => by have := (h.lt g hv).1; simp at he; omega))
theorem own_below {w w' : World} {base : Nat} {e : TypeId} {size : Nat} {v : Value} {n : Nat} {xs : List Value} (h : w.ownsRow base e size v n xs) (hb : Below w.heap.size w w') : w'.ownsRow base e size v n xs :=
  h.kept (row := none) ⟨hb.os, hb.tape, hb.output, hb.size, fun k hk _ => hb.block k hk⟩ (by
    cases hv : v.ownBlock with
    | none => exact .inl rfl
    | some g => exact .inr (by simp))
theorem own_set {w : World} {base : Nat} {e : TypeId} {size : Nat} {v : Value} {n : Nat} {xs : List Value} (h : w.ownsRow base e size v n xs) {k : Nat} (hk : ∀ g, v.ownBlock = some g → g ≠ k) (o : Nat) (u : Value) : (w.setCell ⟨k, o, none⟩ u).ownsRow base e size v n xs :=
  ownsRow_setCell_other h (by
    cases hv : v.ownBlock with
    | none => simp
    | some g => simp; exact hk g hv) u
theorem grown_below {w w' : World} {base : Nat} {e : TypeId} {size : Nat} {v : Value} {n : Nat} {xs : List Value} (h : w.ownsRow base e size v n xs) (hg : w.grownBy w' v.ownBlock) (hb : base ≤ w.heap.size) : Below base w w' :=
  ⟨hg.os, hg.tape, hg.output, hg.size, fun k hk => hg.block k (by omega) (fun he => by have := (h.lt k he.symm).1; omega)⟩
theorem CurOk.belowB {w w' : World} {B p base : Nat} (h : CurOk w B p) (hb : Below base w w') (hp : p < base) : CurOk w' B p := by
  obtain ⟨a, n, c, i, hh, h0, h1, h2, f0, f1, f2, hi, hn, hc, hB, hpw⟩ := h
  refine ⟨a, n, c, i, hh, ?_, ?_, ?_, ?_, ?_, ?_, hi, hn, hc.below (hb.mono (by omega)), hB, Nat.lt_of_lt_of_le hpw hb.size⟩
  · rw [hb.cell (p := ⟨p, 0, none⟩) hp]; exact h0
  · rw [hb.cell (p := ⟨p, 1, none⟩) hp]; exact h1
  · rw [hb.cell (p := ⟨p, 2, none⟩) hp]; exact h2
  · rw [hb.frozen (p := ⟨p, 0, none⟩) hp]; exact f0
  · rw [hb.frozen (p := ⟨p, 1, none⟩) hp]; exact f1
  · rw [hb.frozen (p := ⟨p, 2, none⟩) hp]; exact f2
theorem But.thenBelow {p : Nat} {a w w' : World} (h : But p a w) (hb : Below a.heap.size w w') : But p a w' :=
  ⟨hb.os.trans h.1, hb.tape.trans h.2.1, hb.output.trans h.2.2.1, Nat.le_trans h.2.2.2.1 hb.size, fun k hk hp => (hb.block k hk).trans (h.2.2.2.2 k hk hp)⟩
theorem infoIval : (Try.prog.info? 25).map (fun i => (i.zero, i.size, i.bytes)) = some (some (.agg #[.int .i64 0, .int .i64 0]), 2, 16) := by kernel_rfl
theorem pair_at (w : World) (a b : Int) (T : TypeId) (j : Nat) (u : Value) (h : [Value.int .i64 a, Value.int .i64 b][j]? = some u) : (w.alloc (.cells #[.int .i64 a, .int .i64 b] T)).cell? ((⟨w.heap.size, 0, none⟩ : Addr).add j) = some u := by
  match j, h with
  | 0, h => simp at h; subst h; simp [Addr.add]
  | 1, h => simp at h; subst h; simp [Addr.add]
set_option maxHeartbeats 4000000 in
theorem l1DrawIvals_any (B p : Nat) (most : Int) (w : World) (hcur : CurOk w B p) (h0 : 0 ≤ most) (h1 : most ≤ 100) :
    Calls Try.prog 73 #[.pointer (some ⟨p, 0, none⟩), .int .i64 most] w fun e w' => ∃ v : Value, ∃ L : List (Int × Int), e = .returned v ∧ w'.ownsRow w.heap.size 25 2 v L.length (prs L) ∧ L.length ≤ 100 ∧ CurOk w' B p ∧ But p w w' := by
  obtain ⟨i0, hi, hz0, hz1, hz2⟩ := info_parts infoIval
  have hpl := hcur.lt
  go_enter Try.func73, Try.ntmps73
  go_wp2_with fail
  refine (l1Below_any B p _ _ hcur).mono ?_
  rintro e w1 ⟨x, rfl, xl, xh, xp, xz, w1c, w1b⟩
  have hx := xp (by omega)
  clear xp xz
  go_wp2_with fail
  refine (l1DrawTime_any B p _ w1c).mono ?_
  rintro e w2 ⟨mid, rfl, w2c, w2b⟩
  have b2 : But p w w2 := w1b.trans w2b
  clear w1b w2b w1c hcur
  have b2' : But p w (w2.alloc (.cells #[] 25)) := b2.alloc _
  have hown0 : (w2.alloc (.cells #[] 25)).ownsRow w.heap.size 25 2 (.slice (some ⟨w2.heap.size, 0, none⟩) 0 0) 0 [] := World.ownsRow_made w2 #[] 0 b2.2.2.2.1 (by simp [maxLen]) (by simp)
  have w2c' : CurOk (w2.alloc (.cells #[] 25)) B p := w2c.below (Below.al _ _)
  clear b2 w2c
  go_wp2_with fail
  go_loopw [7, 8] (fun v i wr => ∃ L : List (Int × Int), (L.length : Int) ≤ x ∧ i = .int .i64 L.length ∧ wr.ownsRow w.heap.size 25 2 v L.length (prs L) ∧ CurOk wr B p ∧ But p w wr) (fun _ i _ => x.toNat - (intOf i).toNat)
  case atStart => exact ⟨[], by simpa using xl, rfl, hown0, w2c', b2'⟩
  case round =>
    obtain ⟨L, hk, rfl, hown, wrc, wrb⟩ := hrel
    clear hown0 w2c' b2'
    by_cases hlt : (L.length : Int) < x
    · go_wp2_with fail
      refine (l1Below_any B p _ _ wrc).mono ?_
      rintro e w3 ⟨y, rfl, yl, yh, yp, yz, w3c, w3b⟩
      have o3 := own_but hown w3b (by omega)
      have b3 : But p w w3 := wrb.trans w3b
      clear yp yz hown wrc wrb w3b
      go_wp2_with fail
      refine (l1Below_any B p _ _ w3c).mono ?_
      rintro e w4 ⟨z, rfl, zl, zh, zp, zz, w4c, w4b⟩
      have o4 := own_but o3 w4b (by omega)
      have b4 : But p w w4 := b3.trans w4b
      clear zp zz o3 b3 w3c w4b
      go_wp2_with fail
      refine (l1Told_any _ _ _).mono ?_
      rintro e w5 ⟨rfl, w5b⟩
      have o5 := own_below o4 w5b
      have b5 : But p w w5 := b4.trans (But.of_below w5b)
      have w5c : CurOk w5 B p := w4c.below w5b
      clear o4 b4 w4c w5b
      generalize wrap64 (wrap64 (mid - y) + z) = hi' at *
      generalize wrap64 (mid - y) = lo' at *
      have hkp : w5.heap.size ≠ p := by have := w5c.lt; omega
      have hBk : B ≤ w5.heap.size := by have := w5c.lt; omega
      have hwk : w.heap.size ≤ w5.heap.size := b5.2.2.2.1
      have hne : ∀ g, u7.ownBlock = some g → g ≠ w5.heap.size := fun g hg => by have := (o5.lt g hg).2; omega
      cases hok : okI lo' hi'
      · have A5 := Below.al w5 (.cells #[.int .i64 (sel false lo'), .int .i64 (sel false hi')] 25)
        have N5 := Box.new w5 (sel false lo') (sel false hi') 25
        have w5c' := w5c.below A5
        have b5' := b5.alloc (.cells #[.int .i64 (sel false lo'), .int .i64 (sel false hi')] 25)
        have o5' := World.ownsRow.alloc o5 (.cells #[.int .i64 (sel false lo'), .int .i64 (sel false hi')] 25)
        clear w5c b5 o5
        go_wp2_with fail
        refine (l1DrawIval_any B p _ w5c').mono ?_
        rintro e w7 ⟨xx, yy, rfl, w7c, w7b⟩
        have o7 := own_but o5' w7b (by omega)
        have b7 : But p w w7 := But.trans b5' w7b
        have N7 := Box.but N5 w7b hkp
        have o8 := own_set (own_set o7 hne 0 (.int .i64 xx)) hne 1 (.int .i64 yy)
        have w8c := (w7c.setOther hkp hBk 0 (.int .i64 xx)).setOther hkp hBk 1 (.int .i64 yy)
        have b8 := (b7.setNew hwk 0 (.int .i64 xx)).setNew hwk 1 (.int .i64 yy)
        obtain ⟨g1, g2, g3, g4, g5⟩ := N7
        clear o7 b7 w7c w7b
        go_wp2_with (at_builtin; refine wpList_append_own _ rfl _ _ 39 rfl w.heap.size 25 i0 (.agg #[.int .i64 0, .int .i64 0]) 2 16 Try.underlying39 hi hz0 hz1 hz2 rfl (by decide) _ _ _ rfl (World.ownsRow.alloc o8 _) ⟨w7.heap.size, 0, none⟩ 1 1 [.int .i64 xx, .int .i64 yy] rfl rfl ?c1 ?c2 ?c3 ?c4 ?c5 ?_)
        case c1 => intro j u hj; (have h := pair_at ((w7.setCell ⟨w5.heap.size, 0, none⟩ (.int .i64 xx)).setCell ⟨w5.heap.size, 1, none⟩ (.int .i64 yy)) _ _ 25 j u hj); (try simp only [World.size_setCell] at h); exact h
        case c2 => intro u hu; simp at hu; rcases hu with rfl | rfl <;> rfl
        case c3 => unfold maxLen; omega
        case c4 => omega
        case c5 => have := b8.2.2.2.1; simp at this ⊢; omega
        · intro v' w9 hown' hgrow _
          have A9 := Below.al ((w7.setCell ⟨w5.heap.size, 0, none⟩ (.int .i64 xx)).setCell ⟨w5.heap.size, 1, none⟩ (.int .i64 yy)) (.cells #[.int .i64 xx, .int .i64 yy] 25)
          have hsz : w.heap.size ≤ (World.alloc ((w7.setCell ⟨w5.heap.size, 0, none⟩ (.int .i64 xx)).setCell ⟨w5.heap.size, 1, none⟩ (.int .i64 yy)) (.cells #[.int .i64 xx, .int .i64 yy] 25)).heap.size := by have := b8.2.2.2.1; simp at this ⊢; omega
          have G9 := grown_below (World.ownsRow.alloc o8 _) hgrow hsz
          have w9c : CurOk w9 B p := CurOk.belowB (CurOk.below w8c A9) G9 (by omega)
          have b9 : But p w w9 := But.thenBelow (But.alloc b8 _) G9
          have R9 : w9.ownsRow w.heap.size 25 2 v' (L ++ [(xx, yy)]).length (prs (L ++ [(xx, yy)])) := by rw [prs_add]; simpa using hown'
          clear hown' hgrow G9 A9 hsz
          go_wp2
          go_roundw
          case rel => exact ⟨L ++ [(xx, yy)], by simp; omega, by simp; try go_num, R9, w9c, b9⟩
          case measure => simp [intOf]; omega
      · have A5 := Below.al w5 (.cells #[.int .i64 (sel true lo'), .int .i64 (sel true hi')] 25)
        have N5 := Box.new w5 (sel true lo') (sel true hi') 25
        have w5c' := w5c.below A5
        have b5' := b5.alloc (.cells #[.int .i64 (sel true lo'), .int .i64 (sel true hi')] 25)
        have o5' := World.ownsRow.alloc o5 (.cells #[.int .i64 (sel true lo'), .int .i64 (sel true hi')] 25)
        clear w5c b5 o5
        go_wp2_with fail
        refine (l1Once_any B p _ _ w5c').mono ?_
        rintro e w6 ⟨oo, rfl, w6c, w6b⟩
        have o6 := own_but o5' w6b (by omega)
        have b6 : But p w w6 := But.trans b5' w6b
        have N6 := N5.but w6b hkp
        clear o5' b5' N5 w5c' w6b A5
        cases oo
        · obtain ⟨g1, g2, g3, g4, g5⟩ := id N6
          go_wp2_with (at_builtin; refine wpList_append_own _ rfl _ _ 39 rfl w.heap.size 25 i0 (.agg #[.int .i64 0, .int .i64 0]) 2 16 Try.underlying39 hi hz0 hz1 hz2 rfl (by decide) _ _ _ rfl (World.ownsRow.alloc o6 _) ⟨w6.heap.size, 0, none⟩ 1 1 [.int .i64 (sel true lo'), .int .i64 (sel true hi')] rfl rfl ?c1 ?c2 ?c3 ?c4 ?c5 ?_)
          case c1 => intro j u hj; (have h := pair_at w6 _ _ 25 j u hj); (try simp only [World.size_setCell] at h); exact h
          case c2 => intro u hu; simp at hu; rcases hu with rfl | rfl <;> rfl
          case c3 => unfold maxLen; omega
          case c4 => omega
          case c5 => have := b6.2.2.2.1; simp at this ⊢; omega
          · intro v' w9 hown' hgrow _
            have A9 := Below.al w6 (.cells #[.int .i64 (sel true lo'), .int .i64 (sel true hi')] 25)
            have hsz : w.heap.size ≤ (World.alloc w6 (.cells #[.int .i64 (sel true lo'), .int .i64 (sel true hi')] 25)).heap.size := by have := b6.2.2.2.1; simp at this ⊢; omega
            have G9 := grown_below (World.ownsRow.alloc o6 _) hgrow hsz
            have w9c : CurOk w9 B p := CurOk.belowB (CurOk.below w6c A9) G9 (by omega)
            have b9 : But p w w9 := But.thenBelow (But.alloc b6 _) G9
            have R9 : w9.ownsRow w.heap.size 25 2 v' (L ++ [((sel true lo'), (sel true hi'))]).length (prs (L ++ [((sel true lo'), (sel true hi'))])) := by rw [prs_add]; simpa using hown'
            clear hown' hgrow G9 A9 hsz
            go_wp2
            go_roundw
            case rel => exact ⟨L ++ [((sel true lo'), (sel true hi'))], by simp; omega, by simp; try go_num, R9, w9c, b9⟩
            case measure => simp [intOf]; omega
        · go_wp2_with fail
          refine (l1DrawIval_any B p _ w6c).mono ?_
          rintro e w7 ⟨xx, yy, rfl, w7c, w7b⟩
          have o7 := own_but o6 w7b (by omega)
          have b7 : But p w w7 := But.trans b6 w7b
          have N7 := Box.but N6 w7b hkp
          have o8 := own_set (own_set o7 hne 0 (.int .i64 xx)) hne 1 (.int .i64 yy)
          have w8c := (w7c.setOther hkp hBk 0 (.int .i64 xx)).setOther hkp hBk 1 (.int .i64 yy)
          have b8 := (b7.setNew hwk 0 (.int .i64 xx)).setNew hwk 1 (.int .i64 yy)
          obtain ⟨g1, g2, g3, g4, g5⟩ := N7
          clear o7 b7 w7c w7b
          go_wp2_with (at_builtin; refine wpList_append_own _ rfl _ _ 39 rfl w.heap.size 25 i0 (.agg #[.int .i64 0, .int .i64 0]) 2 16 Try.underlying39 hi hz0 hz1 hz2 rfl (by decide) _ _ _ rfl (World.ownsRow.alloc o8 _) ⟨w7.heap.size, 0, none⟩ 1 1 [.int .i64 xx, .int .i64 yy] rfl rfl ?c1 ?c2 ?c3 ?c4 ?c5 ?_)
          case c1 => intro j u hj; (have h := pair_at ((w7.setCell ⟨w5.heap.size, 0, none⟩ (.int .i64 xx)).setCell ⟨w5.heap.size, 1, none⟩ (.int .i64 yy)) _ _ 25 j u hj); (try simp only [World.size_setCell] at h); exact h
          case c2 => intro u hu; simp at hu; rcases hu with rfl | rfl <;> rfl
          case c3 => unfold maxLen; omega
          case c4 => omega
          case c5 => have := b8.2.2.2.1; simp at this ⊢; omega
          · intro v' w9 hown' hgrow _
            have A9 := Below.al ((w7.setCell ⟨w5.heap.size, 0, none⟩ (.int .i64 xx)).setCell ⟨w5.heap.size, 1, none⟩ (.int .i64 yy)) (.cells #[.int .i64 xx, .int .i64 yy] 25)
            have hsz : w.heap.size ≤ (World.alloc ((w7.setCell ⟨w5.heap.size, 0, none⟩ (.int .i64 xx)).setCell ⟨w5.heap.size, 1, none⟩ (.int .i64 yy)) (.cells #[.int .i64 xx, .int .i64 yy] 25)).heap.size := by have := b8.2.2.2.1; simp at this ⊢; omega
            have G9 := grown_below (World.ownsRow.alloc o8 _) hgrow hsz
            have w9c : CurOk w9 B p := CurOk.belowB (CurOk.below w8c A9) G9 (by omega)
            have b9 : But p w w9 := But.thenBelow (But.alloc b8 _) G9
            have R9 : w9.ownsRow w.heap.size 25 2 v' (L ++ [(xx, yy)]).length (prs (L ++ [(xx, yy)])) := by rw [prs_add]; simpa using hown'
            clear hown' hgrow G9 A9 hsz
            go_wp2
            go_roundw
            case rel => exact ⟨L ++ [(xx, yy)], by simp; omega, by simp; try go_num, R9, w9c, b9⟩
            case measure => simp [intOf]; omega
    · go_wp2_with fail
      go_ret
      exact ⟨u7, rfl, L, hown, by omega, wrc, wrb⟩
end Go.Proofs.Ytogapogkdgaobaa
