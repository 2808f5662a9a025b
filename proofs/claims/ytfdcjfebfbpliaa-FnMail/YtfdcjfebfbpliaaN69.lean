/- Contracts of NetDrop. -/
import Derived.Test.YtfdcjfebfbpliaaN68
import Derived.WalkKit
import Derived.WalkSpells
import Derived.WalkLawsBesides
import Derived.Deep.RegionHeld
namespace Go.Proofs.Ytfdcjfebfbpliaa
open Go.RowKit
set_option linter.unusedVariables false
set_option maxHeartbeats 4000000 in
theorem implNetDrop_any (nx i : Int) (b n c : Nat) (M : Nat → FT) (X : Int) (m : Nat) (G : Nat → FT) (y0 y1 y2 : Int) (y3 : ByteArray) (y4 : Int) (C : Int) (w : World) (hm : n ≤ maxLen) (hf : Cs w b 0 (n * 5) (MFFlight M)) (hs : ∀ i, i < n → ((M i).2.2.2.1).size ≤ maxLen) (hw : ∀ i, i < n → (Lit.int .i64 (M i).1).wf = true) (h : TkIs nx M n i X m G (y0, y1, y2, y3, y4) C) :
    Calls Try.prog 9 #[.agg #[.int .i64 nx, .slice (some ⟨b, 0, none⟩) n c], .int .i64 i] w fun e w' => ∃ a' c', e = .returned (.tuple #[.agg #[.int .i64 X, .slice a' m c'], .int .i64 C]) ∧ w'.ownsRow w.heap.size 30 5 (.slice a' m c') m (frow G m) ∧ Below w.heap.size w w' := by
  have A1 := Below.nw w (.cells #[.int .i64 nx, .slice (some ⟨b, 0, none⟩) n c] 26)
  have B := A1.alloc A1.size (.cells #[.int .i64 0, .slice none 0 0] 26)
  have R := B2.new (w.alloc (.cells #[.int .i64 nx, .slice (some ⟨b, 0, none⟩) n c] 26)) (.int .i64 0) (.slice none 0 0) 26
  have CS := hf.below B hf.1
  have CT := implNetTake_any nx i b n c M X m G y0 y1 y2 y3 y4 C _ hm CS hs hw h
  simp only [World.size_alloc] at R
  have hS : w.heap.size + 1 < ((w.alloc (.cells #[.int .i64 nx, .slice (some ⟨b, 0, none⟩) n c] 26)).alloc (.cells #[.int .i64 0, .slice none 0 0] 26)).heap.size := by simp
  clear hf hs hw h A1 CS
  go_enter Try.func9, Try.ntmps9
  go_wp2_with fail
  refine CT.mono ?_
  rintro e v ⟨a', c', rfl, S0, hb⟩
  replace B := B.trans (hb.mono B.size)
  replace R := R.below hb
  clear hb CT
  have A2 := Below.nw v (.cells #[.int .i64 X, .slice a' m c'] 26)
  have A3 := Below.nw (v.alloc (.cells #[.int .i64 X, .slice a' m c'] 26)) (.cells #[.int .i64 y0, .int .i64 y1, .int .i64 y2, .string y3, .int .i64 y4] 30)
  have hv := R.1
  replace R := (R.below A2).below A3
  replace S0 := own_belowF (own_belowF S0 A2) A3
  have K := (NB.new v X a' m c' 26).below A3
  replace B := (B.trans (A2.mono B.size)).trans (A3.mono (B.trans (A2.mono B.size)).size)
  clear A2 A3
  obtain ⟨r0, r1, r2, r3, r4⟩ := id R
  obtain ⟨k0, k1, k2⟩ := id K
  go_wp2_with fail
  generalize (v.alloc (.cells #[.int .i64 X, .slice a' m c'] 26)).alloc (.cells #[.int .i64 y0, .int .i64 y1, .int .i64 y2, .string y3, .int .i64 y4] 30) = v2 at *
  have PB := ((But.refl (w.heap.size + 1) v2).setCell 0 (.int .i64 X)).setCell 1 (.slice a' m c')
  exact bodyPost_ret (v := .tuple #[.agg #[.int .i64 X, .slice a' m c'], .int .i64 C]) (by simp (maxDischargeDepth := 6) [results, Try.results9, go_sem, *]) rfl ⟨a', c', rfl, ownB_le (own_butF S0 PB hS) (by simp; omega), B.trans (PB.below (by omega) B.size)⟩
end Go.Proofs.Ytfdcjfebfbpliaa
