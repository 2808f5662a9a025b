/- A list of looks is drawn. -/
import Derived.Test.YtdllkfllnljaaaaV121
import Derived.Test.YtdllkfllnljaaaaA131
import Derived.Deep.DeepCutAuto
import Derived.Deep.RegionHeld3
import Derived.WalkKit
import Derived.WalkSpells
import Derived.WalkLawsBesides
import Derived.Deep.RegionHeld
namespace Go.Proofs.Ytdllkfllnljaaaa
open Go.RowKit
set_option linter.unusedVariables false
/- A list of looks beside the cursor. -/
def Lw (w : World) (B p : Nat) (v : Value) (L : List LkT) (wr : World) : Prop := CurOk wr B p ∧ wr.ownsRow w.heap.size 32 3 v L.length (lrow L) ∧ But p w wr ∧ p < w.heap.size
theorem Lw.call {w : World} {B p : Nat} {v : Value} {L : List LkT} {wr wr' : World} (h : Lw w B p v L wr) (hc : CurOk wr' B p) (hb : But p wr wr') : Lw w B p v L wr' := ⟨hc, own_butK h.2.1 hb h.2.2.2, h.2.2.1.trans hb, h.2.2.2⟩
theorem Lw.below {w : World} {B p : Nat} {v : Value} {L : List LkT} {wr wr' : World} (h : Lw w B p v L wr) (hb : Below wr.heap.size wr wr') : Lw w B p v L wr' := ⟨h.1.below hb, own_belK' h.2.1 hb, h.2.2.1.trans ⟨hb.os, hb.tape, hb.output, hb.size, fun k hk _ => hb.block k hk⟩, h.2.2.2⟩
theorem CurOk.belowW {w w' : World} {B p Q : Nat} (h : CurOk w B p) (hb : Below Q w w') (hq : p < Q) : CurOk w' B p := by
  obtain ⟨a, n, c, i, hh, h0, h1, h2, f0, f1, f2, hi, hn, hc, hB, hp⟩ := h
  refine ⟨a, n, c, i, hh, ?_, ?_, ?_, ?_, ?_, ?_, hi, hn, hc.below (hb.mono (by omega)), hB, Nat.lt_of_lt_of_le hp hb.size⟩
  · rw [hb.cell (p := ⟨p, 0, none⟩) hq]; exact h0
  · rw [hb.cell (p := ⟨p, 1, none⟩) hq]; exact h1
  · rw [hb.cell (p := ⟨p, 2, none⟩) hq]; exact h2
  · rw [hb.frozen (p := ⟨p, 0, none⟩) hq]; exact f0
  · rw [hb.frozen (p := ⟨p, 1, none⟩) hq]; exact f1
  · rw [hb.frozen (p := ⟨p, 2, none⟩) hq]; exact f2
theorem CurOk.keptW {w w' : World} {B p : Nat} {o : Option Nat} (h : CurOk w B p) (hg : w.grownBy w' o) (hne : ∀ k, k ≤ p → some k ≠ o) : CurOk w' B p :=
  h.belowW (grown_bel hg (B := p + 1) (by have := h.lt; omega) (fun b hb => hne b (by omega))) (Nat.lt_succ_self _)
theorem Lw.add {w : World} {B p : Nat} {v v' : Value} {L L' : List LkT} {wr w9 : World} (h : Lw w B p v L wr) (O9 : w9.ownsRow w.heap.size 32 3 v' L'.length (lrow L')) (hg : wr.grownBy w9 v.ownBlock) : Lw w B p v' L' w9 := by
  obtain ⟨h1, h2, h3, h4⟩ := h
  have hne : ∀ k, k < w.heap.size → some k ≠ v.ownBlock := fun k hk e => by have := (World.ownsRow.lt h2 k e.symm).1; omega
  exact ⟨h1.keptW hg (fun k hk => hne k (by omega)), O9, ⟨hg.os.trans h3.1, hg.tape.trans h3.2.1, hg.output.trans h3.2.2.1, Nat.le_trans h3.2.2.2.1 hg.size, fun k hk hp => (hg.block k (Nat.lt_of_lt_of_le hk h3.2.2.2.1) (hne k hk)).trans (h3.2.2.2.2 k hk hp)⟩, h4⟩
/- A box of its own, made behind w, is written. -/
theorem Lw.set {w : World} {B p : Nat} {v : Value} {L : List LkT} {wr : World} (h : Lw w B p v L wr) {j : Nat} (hj : w.heap.size ≤ j) (hne : ∀ g, v.ownBlock = some g → g ≠ j) (o : Nat) (u : Value) : Lw w B p v L (wr.setCell ⟨j, o, none⟩ u) := by
  obtain ⟨h1, h2, h3, h4⟩ := h
  have hl := h1.lt
  exact ⟨h1.setOther (by omega) (by omega) o u, own_neK h2 ((But.refl j wr).setCell o u) hne, h3.setNew hj o u, h4⟩
theorem own_baseL {w : World} {base base' s n : Nat} {T : TypeId} {v : Value} {xs : List Value} (h : w.ownsRow base' T s v n xs) (hb : base ≤ base') : w.ownsRow base T s v n xs := by
  refine ⟨h.1, ?_⟩
  rcases h.2 with q | ⟨g, cap, cur, h1, h2, h3⟩
  · exact .inl q
  · exact .inr ⟨g, cap, cur, h1, Nat.le_trans hb h2, h3⟩
set_option maxRecDepth 100000 in
set_option maxHeartbeats 16000000 in
theorem l12DrawLooks_any (B p : Nat) (most : Int) (w : World) (hcur : CurOk w B p) (hm0 : 0 ≤ most) (hm1 : most ≤ 100) :
    Calls Try.prog 39 #[.pointer (some ⟨p, 0, none⟩), .int .i64 most] w fun e w' => ∃ v L, e = .returned v ∧ Lw w B p v L w' ∧ L.length ≤ 201 := by
  have hpl := hcur.lt
  have bb := But.refl p w
  go_enter Try.func39, Try.ntmps39
  go_wp2_with fail
  refine (l1Below_any B p (most + 1) _ hcur).mono ?_
  rintro e w1 ⟨n, rfl, n0, n1, n2, _, cc, hb⟩
  have n3 := n2 (by omega)
  replace bb := bb.trans hb
  clear hcur hb n1 n2
  go_wp2_with fail
  refine (l1Once_any B p 30 _ cc).mono ?_
  rintro e w2 ⟨o, rfl, nc, hb⟩
  replace cc := nc
  replace bb := bb.trans hb
  clear hb nc
  cases o
  · go_upto_region 4 with fail
    have hN0 : 0 ≤ n := n0
    have hN1 : n ≤ 201 := by omega
    clear n0 n3
    generalize w2 = wq at *
    obtain ⟨N, rfl⟩ := Int.eq_ofNat_of_zero_le hN0
    have hN2 : N ≤ 201 := by omega
    clear hN0 hN1
    have A1 := Below.nw wq (.cells #[] 32)
    have hwq : w.heap.size ≤ wq.heap.size := bb.2.2.2.1
    have ST : Lw w B p (.slice (some ⟨wq.heap.size, 0, none⟩) 0 0) [] (wq.alloc (.cells #[] 32)) := ⟨cc.below A1, own_baseL (made_look wq) hwq, bb.trans ⟨A1.os, A1.tape, A1.output, A1.size, fun k hk _ => A1.block k hk⟩, hpl.1⟩
    go_upto_region 5 with fail
    clear A1 cc bb
    generalize wq.alloc (.cells #[] 32) = wz at *
    generalize wq.heap.size = jq at *
    go_wp2_with fail
    refine (l1Below_any B p 30 _ ST.1).mono ?_
    rintro e w5 ⟨at', rfl, at'0, at'1, at'2, _, hc, hb⟩
    have at'3 := at'2 (by omega)
    replace ST := ST.call hc hb
    clear hc hb at'2
    go_wp2_with fail
    go_loopw [6, 7, 8] (fun v s7 i wr => ∃ (k : Nat) (A : Int) (L : List LkT), k ≤ N ∧ i = .int .i64 k ∧ s7 = .int .i64 A ∧ 0 ≤ A ∧ A ≤ 30 + 8 * (k : Int) ∧ L.length = k ∧ Lw w B p v L wr) (fun _ _ i _ => N - (intOf i).toNat)
    case atStart => exact ⟨0, at', [], Nat.zero_le _, rfl, rfl, at'0, by omega, rfl, ST⟩
    case round =>
      clear ST
      obtain ⟨k, A, L, hk, rfl, rfl, A0, A1, hL, ST⟩ := hrel
      by_cases hlt : k < N
      · have hli : (k : Int) < (N : Int) := by omega
        go_wp2_with fail
        refine (l1Below_any B p 8 _ ST.1).mono ?_
        rintro e w6 ⟨x, rfl, x0, x1, x2, _, hc, hb⟩
        have x3 := x2 (by omega)
        replace ST := ST.call hc hb
        clear hc hb x2
        go_wp2_with fail
        refine (l1Once_any B p 4 _ ST.1).mono ?_
        rintro e w7 ⟨z, rfl, hc, hb⟩
        replace ST := ST.call hc hb
        clear hc hb
        go_wp2_with fail
        refine (l1Below_any B p 12 _ ST.1).mono ?_
        rintro e w8 ⟨y, rfl, y0, y1, y2, _, hc, hb⟩
        have y3 := y2 (by omega)
        replace ST := ST.call hc hb
        clear hc hb y2
        go_wp2_with fail
        refine (l1Below_any B p 12 _ ST.1).mono ?_
        rintro e w9 ⟨u, rfl, u0, u1, u2, _, hc, hb⟩
        have u3 := u2 (by omega)
        replace ST := ST.call hc hb
        clear hc hb u2
        have K := Tx3.new w9 (.bool (!z)) (.int .i64 (A + x - y)) (.int .i64 (A + x + u)) 32
        have A2 := Below.nw w9 (.cells #[.bool (!z), .int .i64 (A + x - y), .int .i64 (A + x + u)] 32)
        have hkp : w9.heap.size ≠ p := Nat.ne_of_gt ST.1.lt.1
        have hkw : w.heap.size ≤ w9.heap.size := ST.2.2.1.2.2.2.1
        have hko : ∀ g, Value.ownBlock u6 = some g → g ≠ w9.heap.size := fun g hg => Nat.ne_of_lt (World.ownsRow.lt ST.2.1 g hg).2
        replace ST := ST.below A2
        clear A2
        go_upto_region 11 with fail
        generalize w9.alloc (.cells #[.bool (!z), .int .i64 (A + x - y), .int .i64 (A + x + u)] 32) = w10 at *
        generalize w9.heap.size = kk at *
        have hA0 : 0 ≤ A + x := by omega
        have hA1 : A + x ≤ 30 + 8 * ((k + 1 : Nat) : Int) := by omega
        generalize A + x - y = q1 at *
        generalize A + x + u = q2 at *
        generalize A + x = A' at *
        generalize (!z) = zz at *
        clear A0 A1 x0 x1 x3 y0 y1 y3 u0 u1 u3
        go_wp2_with fail
        refine (l1Once_any B p 40 _ ST.1).mono ?_
        rintro e w11 ⟨o2, rfl, hc, hb⟩
        replace ST := ST.call hc hb
        replace K := K.but hb hkp
        clear hc hb
        cases o2
        · obtain ⟨k0, k1, k2, k3, k4, k5, k6⟩ := id K
          have OW := ST.2.1
          have hsz : w.heap.size ≤ w11.heap.size := ST.2.2.1.2.2.2.1
          go_wp2_with (at_builtin; refine add_look rfl _ _ rfl w.heap.size L _ rfl OW rfl (by omega) (by omega) ?_; intro v' w12 O9 hg9 hn9)
          have ST9 : Hid (Lw w B p v' _ w12) := ST.add O9 hg9
          clear OW O9 hg9 hn9 ST K k0 k1 k2 k3 k4 k5 k6
          go_wp2_with fail
          go_roundw
          case rel => exact ⟨k + 1, A', _, by omega, by go_num, rfl, hA0, hA1, by simp; omega, ST9.out⟩
          case measure => simp [intOf]; omega
        · go_wp2_with fail
          refine (l1DrawIval_any B p _ ST.1).mono ?_
          rintro e w12 ⟨x1, y1, rfl, hc, hb⟩
          replace ST := ST.call hc hb
          replace K := K.but hb hkp
          clear hc hb
          obtain ⟨k0, k1, k2, k3, k4, k5, k6⟩ := id K
          go_upto_region 13 with fail
          replace K := (K.set1 (.int .i64 x1)).set2 (.int .i64 y1)
          replace ST := (ST.set hkw hko 1 (.int .i64 x1)).set hkw hko 2 (.int .i64 y1)
          clear k0 k1 k2 k3 k4 k5 k6
          generalize (w12.setCell ⟨kk, 1, none⟩ (.int .i64 x1)).setCell ⟨kk, 2, none⟩ (.int .i64 y1) = w13 at *
          obtain ⟨k0, k1, k2, k3, k4, k5, k6⟩ := id K
          have OW := ST.2.1
          have hsz : w.heap.size ≤ w13.heap.size := ST.2.2.1.2.2.2.1
          go_wp2_with (at_builtin; refine add_look rfl _ _ rfl w.heap.size L _ rfl OW rfl (by omega) (by omega) ?_; intro v' w14 O9 hg9 hn9)
          have ST9 : Hid (Lw w B p v' _ w14) := ST.add O9 hg9
          clear OW O9 hg9 hn9 ST K k0 k1 k2 k3 k4 k5 k6
          go_wp2_with fail
          go_roundw
          case rel => exact ⟨k + 1, A', _, by omega, by go_num, rfl, hA0, hA1, by simp; omega, ST9.out⟩
          case measure => simp [intOf]; omega
      · have hkn : k = N := by omega
        subst hkn
        have hli : ¬ (k : Int) < (k : Int) := by omega
        obtain ⟨av, cv, rfl, _, _, _⟩ := ownF_src ST.2.1
        rw [hL] at ST
        go_wp2_with fail
        go_ret
        first | exact ⟨_, L, rfl, ST, by omega⟩ | exact ⟨_, rfl, L, ST, by omega⟩
  · go_wp2_with fail
    refine (l1Below_any B p 2 _ cc).mono ?_
    rintro e w3 ⟨m, rfl, m0, m1, m2, _, nc, hb⟩
    have m3 := m2 (by omega)
    replace bb := bb.trans hb
    replace cc := nc
    clear hb nc m1 m2
    go_upto_region 4 with fail
    have hN0 : 0 ≤ 200 + m := by omega
    have hN1 : 200 + m ≤ 201 := by omega
    clear n0 n3 m0 m3
    generalize 200 + m = n' at *
    generalize w3 = wq at *
    obtain ⟨N, rfl⟩ := Int.eq_ofNat_of_zero_le hN0
    have hN2 : N ≤ 201 := by omega
    clear hN0 hN1
    have A1 := Below.nw wq (.cells #[] 32)
    have hwq : w.heap.size ≤ wq.heap.size := bb.2.2.2.1
    have ST : Lw w B p (.slice (some ⟨wq.heap.size, 0, none⟩) 0 0) [] (wq.alloc (.cells #[] 32)) := ⟨cc.below A1, own_baseL (made_look wq) hwq, bb.trans ⟨A1.os, A1.tape, A1.output, A1.size, fun k hk _ => A1.block k hk⟩, hpl.1⟩
    go_upto_region 5 with fail
    clear A1 cc bb
    generalize wq.alloc (.cells #[] 32) = wz at *
    generalize wq.heap.size = jq at *
    go_wp2_with fail
    refine (l1Below_any B p 30 _ ST.1).mono ?_
    rintro e w5 ⟨at', rfl, at'0, at'1, at'2, _, hc, hb⟩
    have at'3 := at'2 (by omega)
    replace ST := ST.call hc hb
    clear hc hb at'2
    go_wp2_with fail
    go_loopw [6, 7, 8] (fun v s7 i wr => ∃ (k : Nat) (A : Int) (L : List LkT), k ≤ N ∧ i = .int .i64 k ∧ s7 = .int .i64 A ∧ 0 ≤ A ∧ A ≤ 30 + 8 * (k : Int) ∧ L.length = k ∧ Lw w B p v L wr) (fun _ _ i _ => N - (intOf i).toNat)
    case atStart => exact ⟨0, at', [], Nat.zero_le _, rfl, rfl, at'0, by omega, rfl, ST⟩
    case round =>
      clear ST
      obtain ⟨k, A, L, hk, rfl, rfl, A0, A1, hL, ST⟩ := hrel
      by_cases hlt : k < N
      · have hli : (k : Int) < (N : Int) := by omega
        go_wp2_with fail
        refine (l1Below_any B p 8 _ ST.1).mono ?_
        rintro e w6 ⟨x, rfl, x0, x1, x2, _, hc, hb⟩
        have x3 := x2 (by omega)
        replace ST := ST.call hc hb
        clear hc hb x2
        go_wp2_with fail
        refine (l1Once_any B p 4 _ ST.1).mono ?_
        rintro e w7 ⟨z, rfl, hc, hb⟩
        replace ST := ST.call hc hb
        clear hc hb
        go_wp2_with fail
        refine (l1Below_any B p 12 _ ST.1).mono ?_
        rintro e w8 ⟨y, rfl, y0, y1, y2, _, hc, hb⟩
        have y3 := y2 (by omega)
        replace ST := ST.call hc hb
        clear hc hb y2
        go_wp2_with fail
        refine (l1Below_any B p 12 _ ST.1).mono ?_
        rintro e w9 ⟨u, rfl, u0, u1, u2, _, hc, hb⟩
        have u3 := u2 (by omega)
        replace ST := ST.call hc hb
        clear hc hb u2
        have K := Tx3.new w9 (.bool (!z)) (.int .i64 (A + x - y)) (.int .i64 (A + x + u)) 32
        have A2 := Below.nw w9 (.cells #[.bool (!z), .int .i64 (A + x - y), .int .i64 (A + x + u)] 32)
        have hkp : w9.heap.size ≠ p := Nat.ne_of_gt ST.1.lt.1
        have hkw : w.heap.size ≤ w9.heap.size := ST.2.2.1.2.2.2.1
        have hko : ∀ g, Value.ownBlock u6 = some g → g ≠ w9.heap.size := fun g hg => Nat.ne_of_lt (World.ownsRow.lt ST.2.1 g hg).2
        replace ST := ST.below A2
        clear A2
        go_upto_region 11 with fail
        generalize w9.alloc (.cells #[.bool (!z), .int .i64 (A + x - y), .int .i64 (A + x + u)] 32) = w10 at *
        generalize w9.heap.size = kk at *
        have hA0 : 0 ≤ A + x := by omega
        have hA1 : A + x ≤ 30 + 8 * ((k + 1 : Nat) : Int) := by omega
        generalize A + x - y = q1 at *
        generalize A + x + u = q2 at *
        generalize A + x = A' at *
        generalize (!z) = zz at *
        clear A0 A1 x0 x1 x3 y0 y1 y3 u0 u1 u3
        go_wp2_with fail
        refine (l1Once_any B p 40 _ ST.1).mono ?_
        rintro e w11 ⟨o2, rfl, hc, hb⟩
        replace ST := ST.call hc hb
        replace K := K.but hb hkp
        clear hc hb
        cases o2
        · obtain ⟨k0, k1, k2, k3, k4, k5, k6⟩ := id K
          have OW := ST.2.1
          have hsz : w.heap.size ≤ w11.heap.size := ST.2.2.1.2.2.2.1
          go_wp2_with (at_builtin; refine add_look rfl _ _ rfl w.heap.size L _ rfl OW rfl (by omega) (by omega) ?_; intro v' w12 O9 hg9 hn9)
          have ST9 : Hid (Lw w B p v' _ w12) := ST.add O9 hg9
          clear OW O9 hg9 hn9 ST K k0 k1 k2 k3 k4 k5 k6
          go_wp2_with fail
          go_roundw
          case rel => exact ⟨k + 1, A', _, by omega, by go_num, rfl, hA0, hA1, by simp; omega, ST9.out⟩
          case measure => simp [intOf]; omega
        · go_wp2_with fail
          refine (l1DrawIval_any B p _ ST.1).mono ?_
          rintro e w12 ⟨x1, y1, rfl, hc, hb⟩
          replace ST := ST.call hc hb
          replace K := K.but hb hkp
          clear hc hb
          obtain ⟨k0, k1, k2, k3, k4, k5, k6⟩ := id K
          go_upto_region 13 with fail
          replace K := (K.set1 (.int .i64 x1)).set2 (.int .i64 y1)
          replace ST := (ST.set hkw hko 1 (.int .i64 x1)).set hkw hko 2 (.int .i64 y1)
          clear k0 k1 k2 k3 k4 k5 k6
          generalize (w12.setCell ⟨kk, 1, none⟩ (.int .i64 x1)).setCell ⟨kk, 2, none⟩ (.int .i64 y1) = w13 at *
          obtain ⟨k0, k1, k2, k3, k4, k5, k6⟩ := id K
          have OW := ST.2.1
          have hsz : w.heap.size ≤ w13.heap.size := ST.2.2.1.2.2.2.1
          go_wp2_with (at_builtin; refine add_look rfl _ _ rfl w.heap.size L _ rfl OW rfl (by omega) (by omega) ?_; intro v' w14 O9 hg9 hn9)
          have ST9 : Hid (Lw w B p v' _ w14) := ST.add O9 hg9
          clear OW O9 hg9 hn9 ST K k0 k1 k2 k3 k4 k5 k6
          go_wp2_with fail
          go_roundw
          case rel => exact ⟨k + 1, A', _, by omega, by go_num, rfl, hA0, hA1, by simp; omega, ST9.out⟩
          case measure => simp [intOf]; omega
      · have hkn : k = N := by omega
        subst hkn
        have hli : ¬ (k : Int) < (k : Int) := by omega
        obtain ⟨av, cv, rfl, _, _, _⟩ := ownF_src ST.2.1
        rw [hL] at ST
        go_wp2_with fail
        go_ret
        first | exact ⟨_, L, rfl, ST, by omega⟩ | exact ⟨_, rfl, L, ST, by omega⟩
end Go.Proofs.Ytdllkfllnljaaaa
