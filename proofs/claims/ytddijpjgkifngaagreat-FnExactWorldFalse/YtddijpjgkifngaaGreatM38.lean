/- A node, copied (the program), over arrays of cells. -/
import Derived.Lib.SmallJoins
import Derived.Test.YtddijpjgkifngaaGreatM23
namespace Go.Proofs.YtddijpjgkifngaaGreat
open Go.RowKit
set_option linter.unusedVariables false
theorem infoAskZ : (Tryz.prog.info? 160).map (fun i => (i.zero, i.size, i.bytes)) = some (some (.agg #[.int .i64 0, .int .i64 0, .int .i64 0, .int .i64 0]), 4, 32) := by kernel_rfl
theorem arow_one (M : Nat → KT) (n : Nat) : ∀ u ∈ (List.range (n * 4)).map (MFAsk M), u.oneCell' = true := by
 intro u hu
 rw [List.mem_map] at hu
 obtain ⟨j, _, rfl⟩ := hu
 have h : j % 4 = 0 ∨ j % 4 = 1 ∨ j % 4 = 2 ∨ j % 4 = 3 := by omega
 unfold MFAsk
 rcases h with h | h | h | h <;> rw [h] <;> rfl
theorem copy_asks {w : World} {ops : Array Oper} {rest : List Oper} {o : Oper} {a : Act} {Q : Exit → Act → World → Prop} (hgd : o.guard = none) (s x : Operand)
 (ho : o.op = .call { callee := .builtin .append, args := #[s, x], argTypes := #[90, 90] }) (base : Nat) (M : Nat → KT) (v : Value) (hs : a.eval s = v) (hown : w.ownsRow base 160 4 v 0 ([] : List Value))
 (A : Option Addr) (n c : Nat) (hx : a.eval x = .slice A n c) (hA : (A = none ∧ n = 0 ∧ c = 0) ∨ ∃ b off, A = some ⟨b, off, none⟩ ∧ (n = 0 ∨ Cs w b off (n * 4) (MFAsk M))) (hL : n ≤ 4096) (hbase : base ≤ w.heap.size)
 (h : ∀ v' w', w'.ownsRow base 160 4 v' n ((List.range (n * 4)).map (MFAsk M)) → w.grownBy w' v.ownBlock → wpList Tryz.prog ops Q rest (a.put o.dst v') w') :
 wpList Tryz.prog ops Q (o :: rest) a w := by
 obtain ⟨i0, hi, hz0, hz1, hz2⟩ := info_parts infoAskZ
 rcases hA with ⟨rfl, rfl, rfl⟩ | ⟨b, off, rfl, hC⟩
 ·have hr := run_append_owned_none (P := Tryz.prog) (w := w) base 90 o.type 160 i0 4 Tryz.underlying90 hi v 0 ([] : List Value) hown
  refine wpList_plain hgd fun _ hK => ?_
  unfold Oper.wp execOp
  simp only [ho, resolve, invoke, builtin, Sem.run_bind, Sem.run_pure, Result.andThen_ok, List.map_toArray, List.map_cons, List.map_nil, hs, hx, hr]
  exact hK _ _ (h v w hown ⟨rfl, rfl, rfl, Nat.le_refl _, fun _ _ _ => rfl⟩)
 ·have hcells : ∀ j u, ((List.range (n * 4)).map (MFAsk M))[j]? = some u → w.cell? ((⟨b, off, none⟩ : Addr).add j) = some u := by
   intro j u hu
   rw [List.getElem?_map] at hu
   by_cases hj : j < n * 4
   ·rw [List.getElem?_range hj] at hu
    simp at hu
    subst hu
    rcases hC with rfl | hC
    ·omega
    ·rw [addr_add16]; exact hC.2 j hj
   ·rw [List.getElem?_eq_none (by rw [List.length_range]; omega)] at hu
    simp at hu
  refine wpList_append_new hgd s x 90 ho base 160 i0 (.agg #[.int .i64 0, .int .i64 0, .int .i64 0, .int .i64 0]) 4 32 Tryz.underlying90 hi hz0 hz1 hz2 rfl (by decide) v 0 ([] : List Value) hs hown ⟨b, off, none⟩ n c ((List.range (n * 4)).map (MFAsk M)) hx (by simp) hcells (arow_one M n) (by unfold maxLen; omega) (by omega) hbase ?_
  intro v' w' h1 h2 _
  refine h v' w' ?_ h2
  rw [Nat.zero_add] at h1
  exact h1
theorem made_askZ (w : World) : (w.alloc (.cells #[] 160)).ownsRow w.heap.size 160 4 (.slice (some ⟨w.heap.size, 0, none⟩) 0 0) 0 ([] : List Value) := World.ownsRow_made w #[] 0 (Nat.le_refl _) (by simp [maxLen]) (by simp)
set_option maxRecDepth 100000 in
set_option maxHeartbeats 4000000 in
theorem cloneAskX (a : Option Addr) (n c : Nat) (M : Nat → KT) (w : World) (hL : n ≤ 4096) (ha : RwO w a n c 4 (MFAsk M)) :
 Calls Tryz.prog 161 #[.slice a n c] w fun e w' => ∃ a' c', e = .returned (.slice a' n c') ∧ Rwo w' w.heap.size w'.heap.size 160 4 a' n c' (MFAsk M) ∧ Below w.heap.size w w' := by
 have qT : ∀ (w : World) (a : Option Addr) (n c n' c' : Nat), (binOp .eql 90 (.slice a n c) (.slice none n' c')).run Tryz.prog w = .ok (.bool a.isNone) w := fun w a n c n' c' => Lib.run_eql_slice_nil w _ _ a n c n' c' Tryz.underlying90
 rcases ha with ⟨rfl, rfl, rfl⟩ | ⟨b, off, rfl, hC⟩
 ·go_enter Tryz.func161, Tryz.ntmps161
  go_wp2_with fail
  go_ret
  exact ⟨none, 0, rfl, ⟨⟨rfl, .inl ⟨rfl, rfl⟩⟩, fun g e => by cases e⟩, Below.refl _ _⟩
 ·have A := Below.nw w (.cells #[] 160)
  have OW := made_askZ w
  have hsz : w.heap.size ≤ (w.alloc (.cells #[] 160)).heap.size := A.size
  have HA : Hid ((some (⟨b, off, none⟩ : Addr) = none ∧ n = 0 ∧ c = 0) ∨ ∃ b' off', some (⟨b, off, none⟩ : Addr) = some ⟨b', off', none⟩ ∧ (n = 0 ∨ Cs (w.alloc (.cells #[] 160)) b' off' (n * 4) (MFAsk M))) := .inr ⟨b, off, rfl, hC.imp id fun h => h.below A h.1⟩
  clear hC
  go_enter Tryz.func161, Tryz.ntmps161
  go_wp2_with (at_builtin; refine copy_asks rfl _ _ rfl w.heap.size M _ rfl OW _ n c rfl HA.out hL hsz ?_; intro v' w9 O9 hg9; (have B9 := A.trans (grown_belowK OW hg9 hsz)))
  go_ret
  obtain ⟨a', c', rfl, _, _, _⟩ := ownF_src O9
  exact ⟨a', c', rfl, rwo_of O9, B9⟩
set_option maxRecDepth 100000 in
set_option maxHeartbeats 4000000 in
theorem clonePeerX (a : Option Addr) (n c : Nat) (M : Nat → PT) (w : World) (hL : n ≤ 4096) (ha : RwO w a n c 5 (MFPeer M)) :
 Calls Tryz.prog 162 #[.slice a n c] w fun e w' => ∃ a' c', e = .returned (.slice a' n c') ∧ Rwo w' w.heap.size w'.heap.size 157 5 a' n c' (MFPeer M) ∧ Below w.heap.size w w' := by
 have qT : ∀ (w : World) (a : Option Addr) (n c n' c' : Nat), (binOp .eql 93 (.slice a n c) (.slice none n' c')).run Tryz.prog w = .ok (.bool a.isNone) w := fun w a n c n' c' => Lib.run_eql_slice_nil w _ _ a n c n' c' Tryz.underlying93
 rcases ha with ⟨rfl, rfl, rfl⟩ | ⟨b, off, rfl, hC⟩
 ·go_enter Tryz.func162, Tryz.ntmps162
  go_wp2_with fail
  go_ret
  exact ⟨none, 0, rfl, ⟨⟨rfl, .inl ⟨rfl, rfl⟩⟩, fun g e => by cases e⟩, Below.refl _ _⟩
 ·have A := Below.nw w (.cells #[] 157)
  have OW := made_peerZ w
  have hsz : w.heap.size ≤ (w.alloc (.cells #[] 157)).heap.size := A.size
  have HA : Hid ((some (⟨b, off, none⟩ : Addr) = none ∧ n = 0 ∧ c = 0) ∨ ∃ b' off', some (⟨b, off, none⟩ : Addr) = some ⟨b', off', none⟩ ∧ (n = 0 ∨ Cs (w.alloc (.cells #[] 157)) b' off' (n * 5) (MFPeer M))) := .inr ⟨b, off, rfl, hC.imp id fun h => h.below A h.1⟩
  clear hC
  go_enter Tryz.func162, Tryz.ntmps162
  go_wp2_with (at_builtin; refine copy_peers rfl _ _ rfl w.heap.size M _ rfl OW _ n c rfl HA.out hL hsz ?_; intro v' w9 O9 hg9; (have B9 := A.trans (grown_belowK OW hg9 hsz)))
  go_ret
  obtain ⟨a', c', rfl, _, _, _⟩ := ownF_src O9
  exact ⟨a', c', rfl, rwo_of O9, B9⟩
set_option maxRecDepth 100000 in
set_option maxHeartbeats 4000000 in
theorem cloneHeardX (a : Option Addr) (n c : Nat) (M : Nat → VT) (w : World) (hL : n ≤ 4096) (ha : RwO w a n c 2 (MFIval M)) :
 Calls Tryz.prog 163 #[.slice a n c] w fun e w' => ∃ a' c', e = .returned (.slice a' n c') ∧ Rwo w' w.heap.size w'.heap.size 162 2 a' n c' (MFIval M) ∧ Below w.heap.size w w' := by
 have qT : ∀ (w : World) (a : Option Addr) (n c n' c' : Nat), (binOp .eql 96 (.slice a n c) (.slice none n' c')).run Tryz.prog w = .ok (.bool a.isNone) w := fun w a n c n' c' => Lib.run_eql_slice_nil w _ _ a n c n' c' Tryz.underlying96
 rcases ha with ⟨rfl, rfl, rfl⟩ | ⟨b, off, rfl, hC⟩
 ·go_enter Tryz.func163, Tryz.ntmps163
  go_wp2_with fail
  go_ret
  exact ⟨none, 0, rfl, ⟨⟨rfl, .inl ⟨rfl, rfl⟩⟩, fun g e => by cases e⟩, Below.refl _ _⟩
 ·have A := Below.nw w (.cells #[] 162)
  have OW := made_heard w
  have hsz : w.heap.size ≤ (w.alloc (.cells #[] 162)).heap.size := A.size
  have HA : Hid ((some (⟨b, off, none⟩ : Addr) = none ∧ n = 0 ∧ c = 0) ∨ ∃ b' off', some (⟨b, off, none⟩ : Addr) = some ⟨b', off', none⟩ ∧ (n = 0 ∨ Cs (w.alloc (.cells #[] 162)) b' off' (n * 2) (MFIval M))) := .inr ⟨b, off, rfl, hC.imp id fun h => h.below A h.1⟩
  clear hC
  go_enter Tryz.func163, Tryz.ntmps163
  go_wp2_with (at_builtin; refine copy_heards rfl _ _ rfl w.heap.size M _ rfl OW _ n c rfl HA.out hL hsz ?_; intro v' w9 O9 hg9; (have B9 := A.trans (grown_belowK OW hg9 hsz)))
  go_ret
  obtain ⟨a', c', rfl, _, _, _⟩ := ownF_src O9
  exact ⟨a', c', rfl, rwo_of O9, B9⟩
attribute [-go_sem] loadCells storeCells in
set_option maxRecDepth 100000 in
set_option maxHeartbeats 8000000 in
theorem copiedX (AN : Array Value) (x : NdX) (w : World) (HN : NdS w AN x) (hb : x.na ≤ 16 ∧ x.np ≤ 8 ∧ x.nh ≤ 16) :
 Calls Tryz.prog 113 #[.agg AN] w fun e w' => ∃ R, e = .returned (.agg R) ∧ NdO w' w.heap.size w'.heap.size R x ∧ Below w.heap.size w w' := by
 obtain ⟨aa, ac, pa, pc, ha, hc, rfl, -, h1, h2, h3⟩ := HN
 have CA := fun (v : World) (h : Below w.heap.size w v) => cloneAskX aa x.na ac x.AM v (by omega) (h1.below h)
 have CP := fun (v : World) (h : Below w.heap.size w v) => clonePeerX pa x.np pc x.QM v (by omega) (h2.below h)
 have CH := fun (v : World) (h : Below w.heap.size w v) => cloneHeardX ha x.nh hc x.HM v (by omega) (h3.below h)
 clear h1 h2 h3
 obtain ⟨hb1, hb2, hb3⟩ := hb
 have A0 := Below.nw w (.cells (ndV x aa ac pa pc ha hc) 98)
 have A1 := Below.nw (w.alloc (.cells (ndV x aa ac pa pc ha hc) 98)) (.cells #[.int .i64 0, .int .i64 0, .int .i64 0, .int .i64 0, .bool false, .int .i64 0, .int .i64 0, .int .i64 0, .int .i64 0, .int .i64 0, .slice none 0 0, .slice none 0 0, .bool false, .int .i64 0, .slice none 0 0, .int .i64 0] 98)
 have N := (Bo.new w (ndV x aa ac pa pc ha hc) 98).below A1
 have R := Bo.new (w.alloc (.cells (ndV x aa ac pa pc ha hc) 98)) #[.int .i64 0, .int .i64 0, .int .i64 0, .int .i64 0, .bool false, .int .i64 0, .int .i64 0, .int .i64 0, .int .i64 0, .int .i64 0, .slice none 0 0, .slice none 0 0, .bool false, .int .i64 0, .slice none 0 0, .int .i64 0] 98
 have B := A0
 replace B := B.trans (A1.mono B.size)
 simp only [World.size_alloc] at R
 clear A0 A1
 go_enter Tryz.func113, Tryz.ntmps113
 go_upto_region 1 with fail
 generalize ((w.alloc (.cells (ndV x aa ac pa pc ha hc) 98))).alloc (.cells #[.int .i64 0, .int .i64 0, .int .i64 0, .int .i64 0, .bool false, .int .i64 0, .int .i64 0, .int .i64 0, .int .i64 0, .int .i64 0, .slice none 0 0, .slice none 0 0, .bool false, .int .i64 0, .slice none 0 0, .int .i64 0] 98) = v0 at *
 have hL0 : v0.cell? ⟨w.heap.size, 10, none⟩ = some (.slice aa x.na ac) := N.cell rfl
 go_wp2_with fail
 refine (CA v0 B).mono ?_
 rintro e v1 ⟨a1, c1, rfl, P1, hb⟩
 clear hL0
 have q1N : w.heap.size < v0.heap.size := N.1
 have q1R : w.heap.size + 1 < v0.heap.size := R.1
 have q1 : w.heap.size ≤ v0.heap.size := B.size
 have zv1 : v0.heap.size ≤ v1.heap.size := hb.size
 replace B := B.trans (hb.mono B.size)
 replace N := N.below hb
 replace R := R.below hb
 clear hb
 have hst := Bo.store (P := Tryz.prog) (b := 10) [.slice a1 x.na c1] 10 0 N rfl (show 10 + 1 ≤ 16 by decide) (List.forall_mem_cons.2 ⟨rfl, fun _ h => nomatch h⟩)
 have hb : Btw (w.heap.size) (w.heap.size + 1) v1 (putA v1 (w.heap.size) 10 [.slice a1 x.na c1]) := putA_btw [.slice a1 x.na c1] v1 10 (w.heap.size)
 have B1 := putA_below (k := w.heap.size) [.slice a1 x.na c1] w v1 10 B (by omega)
 have N1 : Bo (putA v1 (w.heap.size) 10 [.slice a1 x.na c1]) (w.heap.size) ((ndV x a1 c1 pa pc ha hc)) := Bo.put [.slice a1 x.na c1] 10 N
 go_upto_region 2 with (rw [hst])
 clear hst  N B
 replace R := R.btw hb (by omega)
 replace P1 := P1.btw hb (by omega)
 have zv2 := hb.2.2.2.1
 clear hb
 generalize putA v1 (w.heap.size) 10 [.slice a1 x.na c1] = v2 at *
 have B := B1
 have N := N1
 clear B1 N1
 have hL0 : v2.cell? ⟨w.heap.size, 11, none⟩ = some (.slice pa x.np pc) := N.cell rfl
 go_wp2_with fail
 refine (CP v2 B).mono ?_
 rintro e v3 ⟨a2, c2, rfl, P2, hb⟩
 clear hL0
 have q2N : w.heap.size < v2.heap.size := N.1
 have q2R : w.heap.size + 1 < v2.heap.size := R.1
 have q2 : w.heap.size ≤ v2.heap.size := B.size
 have zv3 : v2.heap.size ≤ v3.heap.size := hb.size
 replace B := B.trans (hb.mono B.size)
 replace N := N.below hb
 replace R := R.below hb
 replace P1 := P1.below hb
 clear hb
 have hst := Bo.store (P := Tryz.prog) (b := 11) [.slice a2 x.np c2] 11 0 N rfl (show 11 + 1 ≤ 16 by decide) (List.forall_mem_cons.2 ⟨rfl, fun _ h => nomatch h⟩)
 have hb : Btw (w.heap.size) (w.heap.size + 1) v3 (putA v3 (w.heap.size) 11 [.slice a2 x.np c2]) := putA_btw [.slice a2 x.np c2] v3 11 (w.heap.size)
 have B1 := putA_below (k := w.heap.size) [.slice a2 x.np c2] w v3 11 B (by omega)
 have N1 : Bo (putA v3 (w.heap.size) 11 [.slice a2 x.np c2]) (w.heap.size) ((ndV x a1 c1 a2 c2 ha hc)) := Bo.put [.slice a2 x.np c2] 11 N
 go_upto_region 3 with (rw [hst])
 clear hst  N B
 replace R := R.btw hb (by omega)
 replace P1 := P1.btw hb (by omega)
 replace P2 := P2.btw hb (by omega)
 have zv4 := hb.2.2.2.1
 clear hb
 generalize putA v3 (w.heap.size) 11 [.slice a2 x.np c2] = v4 at *
 have B := B1
 have N := N1
 clear B1 N1
 have hL0 : v4.cell? ⟨w.heap.size, 14, none⟩ = some (.slice ha x.nh hc) := N.cell rfl
 go_wp2_with fail
 refine (CH v4 B).mono ?_
 rintro e v5 ⟨a3, c3, rfl, P3, hb⟩
 clear hL0
 have q3N : w.heap.size < v4.heap.size := N.1
 have q3R : w.heap.size + 1 < v4.heap.size := R.1
 have q3 : w.heap.size ≤ v4.heap.size := B.size
 have zv5 : v4.heap.size ≤ v5.heap.size := hb.size
 replace B := B.trans (hb.mono B.size)
 replace N := N.below hb
 replace R := R.below hb
 replace P1 := P1.below hb
 replace P2 := P2.below hb
 clear hb
 have hst := Bo.store (P := Tryz.prog) (b := 14) [.slice a3 x.nh c3] 14 0 N rfl (show 14 + 1 ≤ 16 by decide) (List.forall_mem_cons.2 ⟨rfl, fun _ h => nomatch h⟩)
 have hb : Btw (w.heap.size) (w.heap.size + 1) v5 (putA v5 (w.heap.size) 14 [.slice a3 x.nh c3]) := putA_btw [.slice a3 x.nh c3] v5 14 (w.heap.size)
 have B1 := putA_below (k := w.heap.size) [.slice a3 x.nh c3] w v5 14 B (by omega)
 have N1 : Bo (putA v5 (w.heap.size) 14 [.slice a3 x.nh c3]) (w.heap.size) ((ndV x a1 c1 a2 c2 a3 c3)) := Bo.put [.slice a3 x.nh c3] 14 N
 go_upto_region 4 with (rw [hst])
 clear hst  N B
 replace R := R.btw hb (by omega)
 replace P1 := P1.btw hb (by omega)
 replace P2 := P2.btw hb (by omega)
 replace P3 := P3.btw hb (by omega)
 have zv6 := hb.2.2.2.1
 clear hb
 generalize putA v5 (w.heap.size) 14 [.slice a3 x.nh c3] = v6 at *
 have B := B1
 have N := N1
 clear B1 N1
 have hU : (ndV x a1 c1 a2 c2 a3 c3).size = 16 := rfl
 have hUl : 0 + (ndV x a1 c1 a2 c2 a3 c3).toList.length ≤ 16 := by simp [hU]
 have hL0 := N.load (P := Tryz.prog) (show ((ndV x a1 c1 a2 c2 a3 c3) : Array Value).size = 16 from rfl)
 have hst := Bo.store (P := Tryz.prog) (b := 0) ((ndV x a1 c1 a2 c2 a3 c3).toList) 0 0 R rfl hUl (ndV_one _ _ _ _ _ _ _)
 have hb : Btw (w.heap.size + 1) (w.heap.size + 1 + 1) v6 _ := putA_btw ((ndV x a1 c1 a2 c2 a3 c3).toList) v6 0 (w.heap.size + 1)
 have B1 := putA_below (k := w.heap.size + 1) ((ndV x a1 c1 a2 c2 a3 c3).toList) w v6 0 B (by omega)
 have N1 := R.putW (U := (ndV x a1 c1 a2 c2 a3 c3)) hU
 go_wp2_with (first | rw [hL0] | rw [hst])
 clear hst hL0 R B
 replace N := N.btw hb (by omega)
 replace P1 := P1.btw hb (by omega)
 replace P2 := P2.btw hb (by omega)
 replace P3 := P3.btw hb (by omega)
 have zv7 := hb.2.2.2.1
 clear hb
 generalize putA v6 (w.heap.size + 1) 0 ((ndV x a1 c1 a2 c2 a3 c3).toList) = v7 at *
 have B := B1
 have R := N1
 clear B1 N1
 have hL0 := R.load (P := Tryz.prog) hU
 exact bodyPost_ret (v := .agg (ndV x a1 c1 a2 c2 a3 c3)) (by simp [results, Tryz.results113, go_sem]; rw [hL0]; rfl) rfl ⟨_, rfl, ⟨a1, c1, a2, c2, a3, c3, rfl, ⟨by omega, by omega, by omega⟩, P1.low (by omega), P2.low (by omega), P3.low (by omega)⟩, B⟩
end Go.Proofs.YtddijpjgkifngaaGreat
