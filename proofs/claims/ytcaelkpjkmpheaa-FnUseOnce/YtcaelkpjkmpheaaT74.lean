/- What the draw of a table, a nonce and a sender leaves. -/
import Derived.Test.YtcaelkpjkmpheaaT73
import Derived.Test.YtcaelkpjkmpheaaD4
import Derived.WalkKit
import Derived.WalkSpells
import Derived.WalkLawsBesides
import Derived.Deep.RegionHeld
namespace Go.Proofs.Ytcaelkpjkmpheaa
open Go.RowKit
set_option linter.unusedVariables false
/- What stands while DrawUse looks through the asks: the table's box, its row, the cursor, the result's box. -/
def Du (w : World) (B p bt base : Nat) (ep us : Int) (A : Option Addr) (n c : Nat) (M : Nat → KT) (wr : World) : Prop := IB3 wr bt ep us A n c ∧ wr.ownsRow base 34 4 (.slice A n c) n (krow M n) ∧ CurOk wr B p ∧ Below w.heap.size w wr ∧ Bx3 wr w.heap.size (.int .i64 0) (.int .i64 0) (.slice none 0 0)
theorem Du.but {w wr w' : World} {B p bt base : Nat} {ep us : Int} {A : Option Addr} {n c : Nat} {M : Nat → KT} (h : Du w B p bt base ep us A n c M wr) (hc : CurOk w' B p) (hb : But p wr w') (hp : p < base) (hwp : w.heap.size < p) (hbt : bt ≠ p) : Du w B p bt base ep us A n c M w' :=
  ⟨h.1.but hb hbt, own_butK h.2.1 hb hp, hc, h.2.2.2.1.trans (hb.below (by omega) h.2.2.2.1.size), h.2.2.2.2.but hb (by omega)⟩
theorem Du.result {w wr : World} {B p bt base : Nat} {ep us : Int} {A : Option Addr} {n c : Nat} {M : Nat → KT} (h : Du w B p bt base ep us A n c M wr) (hb : w.heap.size < base) {u0 u1 u2 : Value} : (put3 wr w.heap.size u0 u1 u2).ownsRow w.heap.size 34 4 (.slice A n c) n (krow M n) ∧ Below w.heap.size w (put3 wr w.heap.size u0 u1 u2) :=
  ⟨ownK_le (own_butK h.2.1 (put3_but wr w.heap.size u0 u1 u2) hb) (by omega), h.2.2.2.1.trans ((put3_but wr w.heap.size u0 u1 u2).below (Nat.le_refl _) h.2.2.2.1.size)⟩
def UseDrawn (w : World) (e : Ending) (w' : World) : Prop := ∃ (ep us : Int) (A : Option Addr) (n c : Nat) (M : Nat → KT) (x y : Int), e = .returned (.tuple #[.agg #[.int .i64 ep, .int .i64 us, .slice A n c], .int .i64 x, .int .i64 y]) ∧ n ≤ 17 ∧ kwf M n ∧ (Lit.int .i64 x).wf = true ∧ (Lit.int .i64 y).wf = true ∧ w'.ownsRow w.heap.size 34 4 (.slice A n c) n (krow M n) ∧ Below w.heap.size w w'
set_option maxRecDepth 100000 in
set_option maxHeartbeats 8000000 in
theorem DrawUse_any (a0 : Option Addr) (n0 c0 : Nat) (w : World) (hn : n0 ≤ 1048576) (hcode : CodeB w w.heap.size a0 n0) :
    Calls Try.prog 17 #[.slice a0 n0 c0] w fun e w' => UseDrawn w e w' := by
  have A1 := Below.nw w (.cells #[.int .i64 0, .int .i64 0, .slice none 0 0] 26)
  have R := Bx3.new w (.int .i64 0) (.int .i64 0) (.slice none 0 0) 26
  have HC : Hid (CodeB (w.alloc (.cells #[.int .i64 0, .int .i64 0, .slice none 0 0] 26)) (w.alloc (.cells #[.int .i64 0, .int .i64 0, .slice none 0 0] 26)).heap.size a0 n0) := (hcode.below A1).more A1.size
  clear hcode
  go_enter Try.func17, Try.ntmps17
  go_wp2_with fail
  refine (l1New_any a0 n0 c0 _ hn HC.out).mono ?_
  rintro e w1 ⟨p, rfl, C, hb⟩
  have q := C.lt
  simp only [World.size_alloc] at q
  have hp1 : p < w1.heap.size := q.1
  have hwp : w.heap.size < p := by omega
  replace R := R.below hb
  have B0 := A1.trans (hb.mono A1.size)
  clear A1 hb HC q
  generalize (w.alloc (.cells #[.int .i64 0, .int .i64 0, .slice none 0 0] 26)).heap.size = B at *
  go_wp2_with fail
  refine (l7DrawAny_any B p _ C).mono ?_
  rintro e w2 ⟨ep, us, A, n, c, M, rfl, hn17, hk, O, C2, bb⟩
  have hbase : w.heap.size < w1.heap.size := by omega
  replace R := R.but bb (by omega)
  replace B0 := B0.trans (bb.below (B := w.heap.size) (by omega) (by omega))
  have hbp : w2.heap.size ≠ p := by have := C2.lt; omega
  have A2 := Below.nw w2 (.cells #[.int .i64 ep, .int .i64 us, .slice A n c] 26)
  have D : Du w B p w2.heap.size w1.heap.size ep us A n c M (w2.alloc (.cells #[.int .i64 ep, .int .i64 us, .slice A n c] 26)) := ⟨IB3.new w2 ep us A n c _, own_belK' O A2, C2.below A2, B0.trans (A2.mono B0.size), R.below A2⟩
  clear R B0 A2 O C2 bb C
  go_wp2_with fail
  generalize w2.heap.size = bt at *
  generalize w2.alloc (.cells #[.int .i64 ep, .int .i64 us, .slice A n c] 26) = v at *
  generalize w1.heap.size = base at *
  refine (l7DrawNonce_any B p base ep us A n c M _ D.2.2.1 hp1 hn17 hk D.2.1).mono ?_
  rintro e v2 ⟨x, rfl, wx, cc, bb⟩
  replace D := D.but cc bb hp1 hwp hbp
  clear cc bb
  go_wp2_with fail
  refine (l1Below_any B p 5 _ D.2.2.1).mono ?_
  rintro e v3 ⟨yy, rfl, yl, yh, _, _, cc, bb⟩
  replace D := D.but cc bb hp1 hwp hbp
  have wyy : (Lit.int .i64 yy).wf = true := wf_small ⟨by omega, yh⟩
  clear cc bb yl yh
  go_wp2_with fail
  go_loopw [8, 9] (fun s8 i wr => ∃ (k : Nat) (y : Int), k ≤ n ∧ i = .int .i64 (k : Int) ∧ s8 = .int .i64 y ∧ (Lit.int .i64 y).wf = true ∧ Du w B p bt base ep us A n c M wr) (fun _ i _ => n - (intOf i).toNat)
  case atStart => exact ⟨0, yy, by omega, rfl, rfl, wyy, D⟩
  case round =>
    obtain ⟨k, y, hkn, rfl, rfl, wy, D⟩ := hrel
    by_cases hlt : k < n
    · have hli : (k : Int) < (n : Int) := by omega
      obtain ⟨b, off, rfl, CS⟩ := own_at7 D.2.1 (by omega)
      obtain ⟨y0, y1, y2, y3, hM⟩ := tupAsk M k
      have wy1 : (Lit.int .i64 y1).wf = true := by have := (hk k hlt).2; rw [hM] at this; exact this
      obtain ⟨c0, c1, c2, c3⟩ := CS.elAsk hlt hM
      have hbr := CS.1
      clear CS
      obtain ⟨t0, t1, t2, t3⟩ := id D.1
      by_cases hx : y0 = x
      · go_wp2_with fail
        refine (l1Once_any B p 4 _ D.2.2.1).mono ?_
        rintro e v5 ⟨oo, rfl, cc, bb⟩
        clear t0 t1 t2 t3 c0 c1 c2 c3 hbr
        replace D := D.but cc bb hp1 hwp hbp
        clear cc bb
        cases oo
        · obtain ⟨b', off', hbo, CS⟩ := own_at7 D.2.1 (by omega)
          simp only [Option.some.injEq, Addr.mk.injEq, and_true] at hbo
          obtain ⟨rfl, rfl⟩ := hbo
          obtain ⟨c0, c1, c2, c3⟩ := CS.elAsk hlt hM
          have hbr := CS.1
          clear CS
          obtain ⟨t0, t1, t2, t3⟩ := id D.1
          go_wp2_with fail
          go_roundw; (case rel => exact ⟨k + 1, y1, by omega, by go_num, rfl, wy1, D⟩); (case measure => simp [intOf]; omega)
        · go_wp2_with fail
          go_roundw; (case rel => exact ⟨k + 1, y, by omega, by go_num, rfl, wy, D⟩); (case measure => simp [intOf]; omega)
      · go_wp2_with fail
        go_roundw; (case rel => exact ⟨k + 1, y, by omega, by go_num, rfl, wy, D⟩); (case measure => simp [intOf]; omega)
    · have hkk : k = n := by omega
      subst hkk
      obtain ⟨t0, t1, t2, t3⟩ := id D.1
      obtain ⟨r0, r1, r2, r3, r4, r5, r6⟩ := id D.2.2.2.2
      go_wp2_with fail
      exact bodyPost_ret (v := .tuple #[.agg #[.int .i64 ep, .int .i64 us, .slice A k c], .int .i64 x, .int .i64 y]) (by simp (maxDischargeDepth := 6) [results, Try.results17, go_sem, *]) rfl ⟨ep, us, A, k, c, M, x, y, rfl, hn17, hk, wx, wy, Du.result D hbase⟩
end Go.Proofs.Ytcaelkpjkmpheaa
