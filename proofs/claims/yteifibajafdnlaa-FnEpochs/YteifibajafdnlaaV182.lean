/- What DrawLifeRun leaves. -/
import Derived.Test.YteifibajafdnlaaV181
import Derived.Test.YteifibajafdnlaaT174
import Derived.WalkKit
import Derived.WalkSpells
import Derived.WalkLawsBesides
import Derived.Deep.RegionHeld
namespace Go.Proofs.Yteifibajafdnlaa
open Go.RowKit
set_option linter.unusedVariables false
theorem l1Size17_any (a : Option Addr) (n c : Nat) (w : World) (hn : n ≤ 1048576) :
    Calls Try.prog 40 #[.slice a n c, .int .i64 20] w fun e w' => ∃ x : Int, e = .returned (.int .i64 x) ∧ 0 ≤ x ∧ x ≤ 20 ∧ w = w' := by
  have hq : Int.tdiv (n : Int) 20 = (n : Int) / 20 := Int.tdiv_eq_ediv_of_nonneg (by omega)
  have q0 : 0 ≤ (n : Int) / 20 := by omega
  have q1 : (n : Int) / 20 ≤ 1048576 := by omega
  by_cases h : (20 : Int) < 2 + (n : Int) / 20
  · go_enter Try.func40, Try.ntmps40
    go_wp2_with fail
    go_ret
    exact ⟨20, rfl, by omega, by omega, rfl⟩
  · have hx : 2 + (n : Int) / 20 ≤ 20 := by omega
    go_enter Try.func40, Try.ntmps40
    go_wp2_with fail
    go_ret
    exact ⟨_, rfl, by omega, hx, rfl⟩
/- A life in a box, the box of the answer, a row of events of one's own, and the cursor. -/
def Rw (w : World) (B p jl b0 : Nat) (m e s : Int) (v : Value) (L : List VT) (wr : World) : Prop := Tx3 wr jl (.int .i64 m) (.int .i64 e) (.int .i64 s) ∧ Tx3 wr w.heap.size (.int .i64 0) (.int .i64 0) (.int .i64 0) ∧ wr.ownsRow b0 32 2 v L.length (vrow L) ∧ CurOk wr B p ∧ Below w.heap.size w wr
section
variable {w wr w' : World} {B p jl b0 : Nat} {m e s : Int} {v v' : Value} {L L' : List VT}
theorem Rw.but (h : Rw w B p jl b0 m e s v L wr) (hp : w.heap.size < p) (hj : p < jl) (h0 : p < b0) (hc : CurOk w' B p) (hb : But p wr w') : Rw w B p jl b0 m e s v L w' := ⟨h.1.but hb (by omega), h.2.1.but hb (by omega), own_butK h.2.2.1 hb h0, hc, h.2.2.2.2.trans (hb.below (Nat.le_of_lt hp) h.2.2.2.2.size)⟩
theorem Rw.grow (h : Rw w B p jl b0 m e s v L wr) (hp : w.heap.size < p) (hj : p < jl) (h0 : jl < b0) (hO : w'.ownsRow b0 32 2 v' L'.length (vrow L')) (hg : wr.grownBy w' v.ownBlock) (hb0 : b0 ≤ wr.heap.size) : Rw w B p jl b0 m e s v' L' w' := by
  have hb := grown_belowK h.2.2.1 hg hb0
  exact ⟨h.1.belowB hb h0, h.2.1.belowB hb (by omega), hO, h.2.2.2.1.below17 hb (by omega), h.2.2.2.2.trans (hb.mono (by omega))⟩
end
set_option maxRecDepth 100000 in
set_option maxHeartbeats 8000000 in
theorem DrawLifeRun_any (a : Option Addr) (l cl : Nat) (w : World) (hl : l ≤ 1048576) (hcode : CodeB w w.heap.size a l) :
    Calls Try.prog 12 #[.slice a l cl] w fun x w' => ∃ (m e s : Int) (v : Value) (L : List VT), x = .returned (.tuple #[.agg #[.int .i64 m, .int .i64 e, .int .i64 s], v]) ∧ L.length ≤ 201 ∧ w'.ownsRow w.heap.size 32 2 v L.length (vrow L) ∧ Below w.heap.size w w' := by
  have A0 := Below.nw w (.cells #[.int .i64 0, .int .i64 0, .int .i64 0] 25)
  have R := Tx3.new w (.int .i64 0) (.int .i64 0) (.int .i64 0) 25
  have hcode' := (hcode.below A0).more A0.size
  clear hcode
  go_enter Try.func12, Try.ntmps12
  go_upto_region 1 with fail
  generalize w.alloc (.cells #[.int .i64 0, .int .i64 0, .int .i64 0] 25) = v0 at *
  go_wp2_with fail
  refine (l1New_any a l cl _ hl hcode').mono ?_
  rintro x w1 ⟨p, rfl, cur, nl⟩
  have hp1 := cur.lt
  have hpw : w.heap.size < p := by have := R.1; omega
  replace R := R.below nl
  replace A0 := A0.trans (nl.mono A0.size)
  clear nl hcode'
  generalize v0.heap.size = B at *
  go_wp2_with fail
  refine (l17DrawLife_any B p _ cur).mono ?_
  rintro x w2 ⟨m, e, s, rfl, cc, bb⟩
  have hs12 : w1.heap.size ≤ w2.heap.size := bb.2.2.2.1
  replace R := R.but bb (by omega)
  replace A0 := A0.trans (bb.below (Nat.le_of_lt hpw) A0.size)
  clear bb cur
  have hb := Below.nw w2 (.cells #[.int .i64 m, .int .i64 e, .int .i64 s] 25)
  have X := Tx3.new w2 (.int .i64 m) (.int .i64 e) (.int .i64 s) 25
  go_upto_region 3 with fail
  replace R := R.below hb
  replace A0 := A0.trans (hb.mono A0.size)
  replace cc := cc.below hb
  clear hb
  have hpl : p < w2.heap.size := by omega
  have hxx : w2.heap.size < (w2.alloc (.cells #[.int .i64 m, .int .i64 e, .int .i64 s] 25)).heap.size := X.1
  generalize w2.alloc (.cells #[.int .i64 m, .int .i64 e, .int .i64 s] 25) = v3 at *
  generalize w2.heap.size = jl at *
  clear hs12 hp1
  go_wp2_with fail
  refine (l1Size17_any a l cl _ hl).mono ?_
  rintro x w' ⟨z, rfl, z0, z1, rfl⟩
  go_wp2_with fail
  refine (l1Below_any B p z _ cc).mono ?_
  rintro x v4 ⟨n0, rfl, n1, _, n2, n3, c4, bb⟩
  have n5 : n0 ≤ 201 := by
    rcases Int.lt_or_le 0 z with q | q
    · have := n2 q; omega
    · have := n3 q; omega
  replace R := R.but bb (by omega)
  replace X := X.but bb (by omega)
  replace A0 := A0.trans (bb.below (Nat.le_of_lt hpw) A0.size)
  have hs34 : v3.heap.size ≤ v4.heap.size := bb.2.2.2.1
  clear bb cc n2 n3 z0 z1
  go_wp2_with fail
  refine (l1Once_any B p 25 _ c4).mono ?_
  rintro x v5 ⟨oo, rfl, c5, bb⟩
  replace R := R.but bb (by omega)
  replace X := X.but bb (by omega)
  replace A0 := A0.trans (bb.below (Nat.le_of_lt hpw) A0.size)
  have hs45 : v4.heap.size ≤ v5.heap.size := bb.2.2.2.1
  clear bb c4
  go_upto_if 19 with fail
  go_cut [6] (fun s6 wx => ∃ n : Int, s6 = .int .i64 n ∧ 0 ≤ n ∧ n ≤ 201 ∧ CurOk wx B p ∧ But p v5 wx)
  case first =>
    cases oo
    · go_wp2_with fail
      go_meet
      case rel => exact ⟨n0, rfl, n1, n5, c5, But.refl _ _⟩
    · go_wp2_with fail
      refine (l1Below_any B p 2 _ c5).mono ?_
      rintro x v6 ⟨y, rfl, y0, _, y1, _, c6, bb⟩
      have y2 := y1 (by decide)
      have hw1 : wrap64 (200 + y) = 200 + y := Go.IntWalk.wrap64_in _ ⟨by omega, by omega⟩
      have hw2 : IntKind.i64.wrap (200 + y) = 200 + y := Go.IntWalk.i64_in _ ⟨by omega, by omega⟩
      have HY : Hid (0 ≤ 200 + y ∧ 200 + y ≤ 201) := ⟨by omega, by omega⟩
      clear y0 y1 y2
      go_wp2_with fail
      go_meet
      case rel => exact ⟨200 + y, rfl, HY.out.1, HY.out.2, c6, bb⟩
  case rest =>
    obtain ⟨n, rfl, g0, g1, cc, bb⟩ := hcut
    generalize wc = v6 at *
    replace R := R.but bb (by omega)
    replace X := X.but bb (by omega)
    replace A0 := A0.trans (bb.below (Nat.le_of_lt hpw) A0.size)
    have hs56 : v5.heap.size ≤ v6.heap.size := bb.2.2.2.1
    clear bb n1 n5 c5
    have hb := Below.nw v6 (.cells #[] 32)
    have T : Rw w B p jl v6.heap.size m e s (.slice (some ⟨v6.heap.size, 0, none⟩) 0 0) [] (v6.alloc (.cells #[] 32)) := ⟨X.below hb, R.below hb, made_event v6, cc.below hb, A0.trans (hb.mono A0.size)⟩
    have hp0 : p < v6.heap.size := by omega
    have hj0 : jl < v6.heap.size := by omega
    have hbs0 : v6.heap.size ≤ (v6.alloc (.cells #[] 32)).heap.size := hb.size
    clear X R cc A0 hb
    go_upto_region 7 with fail
    generalize v6.alloc (.cells #[] 32) = v7 at *
    generalize (Value.slice (some ⟨v6.heap.size, 0, none⟩) 0 0) = vs at *
    generalize v6.heap.size = b0 at *
    go_wp2_with fail
    refine (l1Below_any B p 60 _ T.2.2.2.1).mono ?_
    rintro x v8 ⟨t0, rfl, _, _, _, _, cc, bb⟩
    replace T := T.but hpw hpl hp0 cc bb
    have hbs1 : b0 ≤ v8.heap.size := Nat.le_trans hbs0 bb.2.2.2.1
    clear cc bb hbs0
    go_wp2_with fail
    go_loopw [7, 8, 9] (fun s7 s8 i wr => ∃ (L : List VT) (t : Int), s8 = .int .i64 t ∧ i = .int .i64 (L.length : Int) ∧ (L.length : Int) ≤ n ∧ Rw w B p jl b0 m e s s7 L wr ∧ b0 ≤ wr.heap.size) (fun _ _ i _ => n.toNat - (intOf i).toNat)
    case atStart => exact ⟨[], t0, rfl, rfl, g0, T, hbs1⟩
    case round =>
      clear T hbs1
      obtain ⟨L, t, rfl, rfl, hLn, T, hbs⟩ := hrel
      by_cases hlt : (L.length : Int) < n
      · have HLT : Hid ((L.length : Int) < n) := hlt
        go_wp2_with fail
        refine (l1Below_any B p 9 _ T.2.2.2.1).mono ?_
        rintro x v9 ⟨y, rfl, _, _, _, _, cc, bb⟩
        replace T := T.but hpw hpl hp0 cc bb
        replace hbs := Nat.le_trans hbs bb.2.2.2.1
        clear cc bb
        generalize hty : wrap64 (t + y) = t' at *
        go_wp2_with fail
        refine (l17DrawEvent_any B p t' _ T.2.2.2.1).mono ?_
        rintro x v10 ⟨k, z, rfl, cc, bb⟩
        replace T := T.but hpw hpl hp0 cc bb
        replace hbs := Nat.le_trans hbs bb.2.2.2.1
        clear cc bb hlt hLn
        have hlen : L.length ≤ 4096 := by have := HLT.out; omega
        go_wp2_with (at_builtin; refine add_event rfl _ _ rfl b0 L _ rfl T.2.2.1 rfl hlen hbs ?_; intro v' w9 O9 hg9 hn9)
        replace T := T.grow hpw hpl hj0 O9 hg9 hbs
        replace hbs := Nat.le_trans hbs hg9.size
        have HT : Hid (Rw w B p jl b0 m e s v' (L ++ [(k, z)]) w9) := T
        clear O9 hg9 hn9 T
        go_wp2_with fail
        go_roundw
        case rel => exact ⟨L ++ [(k, z)], t', rfl, by rw [List.length_append]; go_num, (by rw [List.length_append]; have := HLT.out; simp; omega), HT.out, hbs⟩
        case measure => have := HLT.out; simp [intOf]; omega
      · have hL : L.length ≤ 201 := by omega
        have RR := ((T.2.1.set0 (.int .i64 m)).set1 (.int .i64 e)).set2 (.int .i64 s)
        have bz : But w.heap.size wr _ := (((But.refl w.heap.size wr).setCell 0 (.int .i64 m)).setCell 1 (.int .i64 e)).setCell 2 (.int .i64 s)
        have SO := own_base17 (base := w.heap.size) (own_butK T.2.2.1 bz (by omega)) (by omega)
        have BB := T.2.2.2.2.trans (bz.below (Nat.le_refl _) T.2.2.2.2.size)
        obtain ⟨n0, n1, n2, n3, n4, n5, n6⟩ := id T.1
        obtain ⟨r0, r1, r2, r3, r4, r5, r6⟩ := id T.2.1
        clear hLn
        go_wp2_with fail
        clear n0 n1 n2 n3 n4 n5 n6 r0 r1 r2 r3 r4 r5 r6 bz T
        generalize ((wr.setCell ⟨w.heap.size, 0, none⟩ (.int .i64 m)).setCell ⟨w.heap.size, 1, none⟩ (.int .i64 e)).setCell ⟨w.heap.size, 2, none⟩ (.int .i64 s) = vz at *
        obtain ⟨r0, r1, r2, r3, r4, r5, r6⟩ := id RR
        exact bodyPost_ret (v := .tuple #[.agg #[.int .i64 m, .int .i64 e, .int .i64 s], u7]) (by simp (maxDischargeDepth := 6) [results, Try.results12, go_sem, r1, r2, r3]) rfl (by first | exact ⟨m, e, s, u7, L, rfl, hL, SO, BB⟩ | exact ⟨m, e, s, u7, rfl, L, hL, SO, BB⟩)
end Go.Proofs.Yteifibajafdnlaa
