/- A list of peers is drawn. -/
import Derived.Test.YtkeijldfblgeaaaI116
import Derived.Test.YtkeijldfblgeaaaK1
import Derived.WalkKit
import Derived.WalkSpells
import Derived.WalkLawsBesides
import Derived.Deep.RegionHeld
namespace Go.Proofs.Ytkeijldfblgeaaa
open Go.RowKit
set_option linter.unusedVariables false
/- A list of peers beside the cursor. -/
def Pw (w : World) (B p : Nat) (v : Value) (L : List PT) (wr : World) : Prop := CurOk wr B p ∧ wr.ownsRow w.heap.size 51 5 v L.length (prow L) ∧ But p w wr ∧ p < w.heap.size
theorem Pw.call {w : World} {B p : Nat} {v : Value} {L : List PT} {wr wr' : World} (h : Pw w B p v L wr) (hc : CurOk wr' B p) (hb : But p wr wr') : Pw w B p v L wr' := ⟨hc, own_butK h.2.1 hb h.2.2.2, h.2.2.1.trans hb, h.2.2.2⟩
theorem Pw.below {w : World} {B p : Nat} {v : Value} {L : List PT} {wr wr' : World} (h : Pw w B p v L wr) (hb : Below wr.heap.size wr wr') : Pw w B p v L wr' := ⟨h.1.below hb, own_belK' h.2.1 hb, h.2.2.1.trans ⟨hb.os, hb.tape, hb.output, hb.size, fun k hk _ => hb.block k hk⟩, h.2.2.2⟩
theorem CurOk.belowV {w w' : World} {B p Q : Nat} (h : CurOk w B p) (hb : Below Q w w') (hq : p < Q) : CurOk w' B p := by
  obtain ⟨a, n, c, i, hh, h0, h1, h2, f0, f1, f2, hi, hn, hc, hB, hp⟩ := h
  refine ⟨a, n, c, i, hh, ?_, ?_, ?_, ?_, ?_, ?_, hi, hn, hc.below (hb.mono (by omega)), hB, Nat.lt_of_lt_of_le hp hb.size⟩
  · rw [hb.cell (p := ⟨p, 0, none⟩) hq]; exact h0
  · rw [hb.cell (p := ⟨p, 1, none⟩) hq]; exact h1
  · rw [hb.cell (p := ⟨p, 2, none⟩) hq]; exact h2
  · rw [hb.frozen (p := ⟨p, 0, none⟩) hq]; exact f0
  · rw [hb.frozen (p := ⟨p, 1, none⟩) hq]; exact f1
  · rw [hb.frozen (p := ⟨p, 2, none⟩) hq]; exact f2
theorem CurOk.kept {w w' : World} {B p : Nat} {o : Option Nat} (h : CurOk w B p) (hg : w.grownBy w' o) (hne : ∀ k, k ≤ p → some k ≠ o) : CurOk w' B p :=
  h.belowV (grown_bel hg (B := p + 1) (by have := h.lt; omega) (fun b hb => hne b (by omega))) (Nat.lt_succ_self _)
theorem Pw.add {w : World} {B p : Nat} {v v' : Value} {L L' : List PT} {wr w9 : World} (h : Pw w B p v L wr) (O9 : w9.ownsRow w.heap.size 51 5 v' L'.length (prow L')) (hg : wr.grownBy w9 v.ownBlock) : Pw w B p v' L' w9 := by
  obtain ⟨h1, h2, h3, h4⟩ := h
  have hne : ∀ k, k < w.heap.size → some k ≠ v.ownBlock := fun k hk e => by have := (World.ownsRow.lt h2 k e.symm).1; omega
  exact ⟨h1.kept hg (fun k hk => hne k (by omega)), O9, ⟨hg.os.trans h3.1, hg.tape.trans h3.2.1, hg.output.trans h3.2.2.1, Nat.le_trans h3.2.2.2.1 hg.size, fun k hk hp => (hg.block k (Nat.lt_of_lt_of_le hk h3.2.2.2.1) (hne k hk)).trans (h3.2.2.2.2 k hk hp)⟩, h4⟩
set_option maxRecDepth 100000 in
set_option maxHeartbeats 8000000 in
theorem l10DrawPeers_any (B p : Nat) (w : World) (hcur : CurOk w B p) :
    Calls Try.prog 58 #[.pointer (some ⟨p, 0, none⟩)] w fun e w' => ∃ v L, e = .returned v ∧ Pw w B p v L w' ∧ L.length ≤ 8 := by
  have hpl := hcur.lt
  have A1 := Below.nw w (.cells #[] 51)
  have ST : Pw w B p (.slice (some ⟨w.heap.size, 0, none⟩) 0 0) [] (w.alloc (.cells #[] 51)) := ⟨hcur.below A1, made_peer w, ⟨A1.os, A1.tape, A1.output, A1.size, fun k hk _ => A1.block k hk⟩, hpl.1⟩
  go_enter Try.func58, Try.ntmps58
  go_upto_region 2 with fail
  clear A1 hcur
  generalize w.alloc (.cells #[] 51) = w1 at *
  go_wp2_with fail
  refine (l1Below_any B p 60 _ ST.1).mono ?_
  rintro e w2 ⟨mid, rfl, m0, m1, m2, _, hc, hb⟩
  have m3 := m2 (by omega)
  replace ST := ST.call hc hb
  clear hc hb m2
  go_wp2_with fail
  go_loopw [3, 5] (fun v i wr => ∃ (k : Nat) (L : List PT), k ≤ 8 ∧ i = .int .i64 k ∧ L.length ≤ k ∧ Pw w B p v L wr) (fun _ i _ => 8 - (intOf i).toNat)
  case atStart => exact ⟨0, [], Nat.zero_le _, rfl, Nat.le_refl _, ST⟩
  case round =>
    clear ST
    obtain ⟨k, L, hk, rfl, hL, ST⟩ := hrel
    by_cases hlt : k < 8
    · have hli : (k : Int) < 8 := by omega
      go_wp2_with fail
      refine (l1Once_any B p 2 _ ST.1).mono ?_
      rintro e w3 ⟨z, rfl, hc, hb⟩
      replace ST := ST.call hc hb
      clear hc hb
      cases z with
      | true =>
        go_wp2_with fail
        go_roundw
        case rel => exact ⟨k + 1, L, by omega, by go_num, by omega, ST⟩
        case measure => simp [intOf]; omega
      | false =>
        go_wp2_with fail
        refine (l1Below_any B p 30 _ ST.1).mono ?_
        rintro e w4 ⟨x1, rfl, a0, a1, a2, _, hc, hb⟩
        have a3 := a2 (by omega)
        replace ST := ST.call hc hb
        clear hc hb a2
        go_wp2_with fail
        refine (l1Below_any B p 50 _ ST.1).mono ?_
        rintro e w5 ⟨x2, rfl, b0, b1, b2, _, hc, hb⟩
        have b3 := b2 (by omega)
        replace ST := ST.call hc hb
        clear hc hb b2
        go_wp2_with fail
        refine (l1Below_any B p 60 _ ST.1).mono ?_
        rintro e w6 ⟨x3, rfl, c0, c1, c2, _, hc, hb⟩
        have c3 := c2 (by omega)
        replace ST := ST.call hc hb
        clear hc hb c2
        go_wp2_with fail
        refine (l1Once_any B p 3 _ ST.1).mono ?_
        rintro e w7 ⟨x4, rfl, hc, hb⟩
        replace ST := ST.call hc hb
        clear hc hb
        have OW := ST.2.1
        have hsz : w.heap.size ≤ w7.heap.size := ST.2.2.1.2.2.2.1
        go_wp2_with (at_builtin; refine add_peer rfl _ _ rfl w.heap.size L _ rfl OW rfl (by omega) (by omega) ?_; intro v' w9 O9 hg9 hn9)
        have ST9 : Hid (Pw w B p v' _ w9) := ST.add O9 hg9
        clear OW O9 hg9 hn9 ST
        go_wp2_with fail
        go_roundw
        case rel => exact ⟨k + 1, _, by omega, by go_num, by simp; omega, ST9.out⟩
        case measure => simp [intOf]; omega
    · have hkn : k = 8 := by omega
      subst hkn
      obtain ⟨av, cv, rfl, _, _, _⟩ := ownF_src ST.2.1
      go_wp2_with fail
      go_ret
      exact ⟨_, L, rfl, ST, hL⟩
end Go.Proofs.Ytkeijldfblgeaaa
