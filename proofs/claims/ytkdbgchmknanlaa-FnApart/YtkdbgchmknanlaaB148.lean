/- How much of a round each node owns, and OwnersOf, in the program. -/
import Derived.Test.YtkdbgchmknanlaaB141
import Derived.Test.YtkdbgchmknanlaaB138
import Derived.Deep.RegionHeld3
import Derived.WalkKit
import Derived.WalkSpells
import Derived.WalkLawsBesides
import Derived.Deep.RegionHeld
namespace Go.Proofs.Ytkdbgchmknanlaa
open Go.RowKit
set_option linter.unusedVariables false
/- How much of a round each node owns, in the program. -/
def owV (s g : Int) (M : Nat → SlT) (n : Nat) (j : Nat) : Int := match plB s g M n with | true => smS M (j : Int) n | false => 0
def ow8 (s g : Int) (M : Nat → SlT) (n : Nat) : Value := .agg #[.int .i64 (owV s g M n 0), .int .i64 (owV s g M n 1), .int .i64 (owV s g M n 2), .int .i64 (owV s g M n 3), .int .i64 (owV s g M n 4), .int .i64 (owV s g M n 5), .int .i64 (owV s g M n 6), .int .i64 (owV s g M n 7)]
def smR (M : Nat → SlT) (k : Nat) (j : Nat) : Value := .int .i64 (smS M (j : Int) k)
theorem smS_next {M : Nat → SlT} {k oN : Nat} {l : Int} (h : M k = ((oN : Int), l)) (j : Nat) : smS M (j : Int) (k + 1) = if j = oN then smS M (j : Int) k + l else smS M (j : Int) k := by
  rw [smS, h]
  by_cases e : j = oN
  · subst e
    rw [if_pos rfl, show ((j : Int) == (j : Int)) = true from beq_self_eq_true _]
  · rw [if_neg e, show ((oN : Int) == (j : Int)) = false by rw [beq_eq_false_iff_ne]; omega]
theorem rowIs_none {w : World} {b : Nat} {T : TypeId} {m : Nat} {f : Nat → Value} (h : w.rowIs b T m f) {w' : World} {B : Nat} (hb : Below B w w') (hB : b < B) : w'.rowIs b T m f := h.of_block (hb.block b hB)
theorem row8 {w : World} {b : Nat} {T : TypeId} {f : Nat → Value} (h : w.rowIs b T 8 f) (X : Nat → Int) : (((((((((w.setCell ⟨b, 0, none⟩ (.int .i64 (X 0))).setCell ⟨b, 1, none⟩ (.int .i64 (X 1))).setCell ⟨b, 2, none⟩ (.int .i64 (X 2))).setCell ⟨b, 3, none⟩ (.int .i64 (X 3))).setCell ⟨b, 4, none⟩ (.int .i64 (X 4))).setCell ⟨b, 5, none⟩ (.int .i64 (X 5))).setCell ⟨b, 6, none⟩ (.int .i64 (X 6))).setCell ⟨b, 7, none⟩ (.int .i64 (X 7)))).rowIs b T 8 (fun j => .int .i64 (X j)) := by
  refine ((((((((h.set 0 _).set 1 _).set 2 _).set 3 _).set 4 _).set 5 _).set 6 _).set 7 _).congr fun i hi => ?_
  match i, hi with
  | 0, _ => rfl
  | 1, _ => rfl
  | 2, _ => rfl
  | 3, _ => rfl
  | 4, _ => rfl
  | 5, _ => rfl
  | 6, _ => rfl
  | 7, _ => rfl
theorem below8 {B b : Nat} {w w' : World} (h : Below B w w') (hB : B ≤ b) (X : Nat → Int) : Below B w (((((((((w'.setCell ⟨b, 0, none⟩ (.int .i64 (X 0))).setCell ⟨b, 1, none⟩ (.int .i64 (X 1))).setCell ⟨b, 2, none⟩ (.int .i64 (X 2))).setCell ⟨b, 3, none⟩ (.int .i64 (X 3))).setCell ⟨b, 4, none⟩ (.int .i64 (X 4))).setCell ⟨b, 5, none⟩ (.int .i64 (X 5))).setCell ⟨b, 6, none⟩ (.int .i64 (X 6))).setCell ⟨b, 7, none⟩ (.int .i64 (X 7)))) :=
  (((((((h.setCell (p := ⟨b, 0, none⟩) hB _).setCell (p := ⟨b, 1, none⟩) hB _).setCell (p := ⟨b, 2, none⟩) hB _).setCell (p := ⟨b, 3, none⟩) hB _).setCell (p := ⟨b, 4, none⟩) hB _).setCell (p := ⟨b, 5, none⟩) hB _).setCell (p := ⟨b, 6, none⟩) hB _).setCell (p := ⟨b, 7, none⟩) hB _
set_option maxRecDepth 100000 in
set_option maxHeartbeats 8000000 in
theorem owned_any (s g : Int) (a : Option Addr) (n c : Nat) (M : Nat → SlT) (w : World) (hm : n ≤ maxLen) (hs : SrcC w a (n * 2) (MFSlot M)) :
    Calls Try.prog 63 #[.agg #[.int .i64 s, .int .i64 g, .slice a n c]] w fun e w' => e = .returned (ow8 s g M n) ∧ Below w.heap.size w w' := by
  have A0 := Below.nw w (.cells #[.int .i64 s, .int .i64 g, .slice a n c] 29)
  have A1 := Below.nw (w.alloc (.cells #[.int .i64 s, .int .i64 g, .slice a n c] 29)) (.cells #[.int .i64 0, .int .i64 0, .int .i64 0, .int .i64 0, .int .i64 0, .int .i64 0, .int .i64 0, .int .i64 0] 78)
  have A2 := Below.nw ((w.alloc (.cells #[.int .i64 s, .int .i64 g, .slice a n c] 29)).alloc (.cells #[.int .i64 0, .int .i64 0, .int .i64 0, .int .i64 0, .int .i64 0, .int .i64 0, .int .i64 0, .int .i64 0] 78)) (.cells #[.int .i64 0, .int .i64 0, .int .i64 0, .int .i64 0, .int .i64 0, .int .i64 0, .int .i64 0, .int .i64 0] 78)
  have N := ((Tx3.new w (.int .i64 s) (.int .i64 g) (.slice a n c) 29).below A1).below A2
  have Rr := rowIs_none (World.rowIs_alloc (w.alloc (.cells #[.int .i64 s, .int .i64 g, .slice a n c] 29)) #[.int .i64 0, .int .i64 0, .int .i64 0, .int .i64 0, .int .i64 0, .int .i64 0, .int .i64 0, .int .i64 0] 78 (fun _ => .int .i64 0) (fun i hi => by match i, hi with | 0, _ => rfl | 1, _ => rfl | 2, _ => rfl | 3, _ => rfl | 4, _ => rfl | 5, _ => rfl | 6, _ => rfl | 7, _ => rfl)) A2 (by simp)
  have Rb := World.rowIs_alloc ((w.alloc (.cells #[.int .i64 s, .int .i64 g, .slice a n c] 29)).alloc (.cells #[.int .i64 0, .int .i64 0, .int .i64 0, .int .i64 0, .int .i64 0, .int .i64 0, .int .i64 0, .int .i64 0] 78)) #[.int .i64 0, .int .i64 0, .int .i64 0, .int .i64 0, .int .i64 0, .int .i64 0, .int .i64 0, .int .i64 0] 78 (fun _ => .int .i64 0) (fun i hi => by match i, hi with | 0, _ => rfl | 1, _ => rfl | 2, _ => rfl | 3, _ => rfl | 4, _ => rfl | 5, _ => rfl | 6, _ => rfl | 7, _ => rfl)
  have B := (A0.trans (A1.mono A0.size)).trans (A2.mono (A0.trans (A1.mono A0.size)).size)
  simp only [World.size_alloc] at Rr Rb
  replace Rr : (((w.alloc (.cells #[.int .i64 s, .int .i64 g, .slice a n c] 29)).alloc (.cells #[.int .i64 0, .int .i64 0, .int .i64 0, .int .i64 0, .int .i64 0, .int .i64 0, .int .i64 0, .int .i64 0] 78)).alloc (.cells #[.int .i64 0, .int .i64 0, .int .i64 0, .int .i64 0, .int .i64 0, .int .i64 0, .int .i64 0, .int .i64 0] 78)).rowIs (w.heap.size + 1) 78 8 (fun _ => .int .i64 0) := Rr
  replace Rb : (((w.alloc (.cells #[.int .i64 s, .int .i64 g, .slice a n c] 29)).alloc (.cells #[.int .i64 0, .int .i64 0, .int .i64 0, .int .i64 0, .int .i64 0, .int .i64 0, .int .i64 0, .int .i64 0] 78)).alloc (.cells #[.int .i64 0, .int .i64 0, .int .i64 0, .int .i64 0, .int .i64 0, .int .i64 0, .int .i64 0, .int .i64 0] 78)).rowIs (w.heap.size + 1 + 1) 78 8 (fun _ => .int .i64 0) := Rb
  clear A0 A1 A2
  have hjr : w.heap.size ≤ w.heap.size + 1 := by omega
  have hjb : w.heap.size ≤ w.heap.size + 1 + 1 := by omega
  have d1 : w.heap.size + 1 + 1 ≠ w.heap.size + 1 := by omega
  have d2 : w.heap.size + 1 + 1 ≠ w.heap.size := by omega
  have HS : Hid (SrcC w a (n * 2) (MFSlot M)) := hs
  clear hs
  have C1 := fun w' h => planOk_any s g a n c M w' hm h
  obtain ⟨X, HX⟩ : ∃ X : Nat → Int, Hid (ow8 s g M n = .agg #[.int .i64 (X 0), .int .i64 (X 1), .int .i64 (X 2), .int .i64 (X 3), .int .i64 (X 4), .int .i64 (X 5), .int .i64 (X 6), .int .i64 (X 7)] ∧ ∀ j, X j = owV s g M n j) := ⟨owV s g M n, rfl, fun _ => rfl⟩
  have HV : Hid (∀ j, X j = owV s g M n j) := HX.out.2
  replace HX : Hid (ow8 s g M n = .agg #[.int .i64 (X 0), .int .i64 (X 1), .int .i64 (X 2), .int .i64 (X 3), .int .i64 (X 4), .int .i64 (X 5), .int .i64 (X 6), .int .i64 (X 7)]) := HX.out.1
  go_enter Try.func63, Try.ntmps63
  go_upto_region 2 with fail
  generalize ((w.alloc (.cells #[.int .i64 s, .int .i64 g, .slice a n c] 29)).alloc (.cells #[.int .i64 0, .int .i64 0, .int .i64 0, .int .i64 0, .int .i64 0, .int .i64 0, .int .i64 0, .int .i64 0] 78)).alloc (.cells #[.int .i64 0, .int .i64 0, .int .i64 0, .int .i64 0, .int .i64 0, .int .i64 0, .int .i64 0, .int .i64 0] 78) = v at *
  generalize w.heap.size + 1 + 1 = jb at *
  generalize w.heap.size + 1 = jr at *
  obtain ⟨n0, n1, n2, n3, n4, n5, n6⟩ := id N
  go_wp2_with fail
  refine (C1 _ (HS.out.below B)).mono ?_
  rintro e v1 ⟨rfl, hb⟩
  clear n0 n1 n2 n3 n4 n5 n6
  replace B := B.trans (hb.mono B.size)
  replace N := N.below hb
  replace Rr := rowIs_none Rr hb Rr.lt
  replace Rb := rowIs_none Rb hb Rb.lt
  clear hb C1
  cases h1 : plB s g M n
  · replace Rb := Rb.congr (g := fun j => .int .i64 (X j)) (fun i _ => by show _ = Value.int .i64 (X i); rw [HV.out, owV, h1])
    clear h1 HV HS N hjb d1 d2
    have ba0 := Rb.cell (i := 0) (by decide); have ba1 := Rb.cell (i := 1) (by decide); have ba2 := Rb.cell (i := 2) (by decide); have ba3 := Rb.cell (i := 3) (by decide); have ba4 := Rb.cell (i := 4) (by decide); have ba5 := Rb.cell (i := 5) (by decide); have ba6 := Rb.cell (i := 6) (by decide); have ba7 := Rb.cell (i := 7) (by decide); have ra0 := Rr.cell (i := 0) (by decide); have ra1 := Rr.cell (i := 1) (by decide); have ra2 := Rr.cell (i := 2) (by decide); have ra3 := Rr.cell (i := 3) (by decide); have ra4 := Rr.cell (i := 4) (by decide); have ra5 := Rr.cell (i := 5) (by decide); have ra6 := Rr.cell (i := 6) (by decide); have ra7 := Rr.cell (i := 7) (by decide); have rf0 := Rr.frozen 0; have rf1 := Rr.frozen 1; have rf2 := Rr.frozen 2; have rf3 := Rr.frozen 3; have rf4 := Rr.frozen 4; have rf5 := Rr.frozen 5; have rf6 := Rr.frozen 6; have rf7 := Rr.frozen 7; (try dsimp only at ba0 ba1 ba2 ba3 ba4 ba5 ba6 ba7 ra0 ra1 ra2 ra3 ra4 ra5 ra6 ra7); have RZ := row8 Rr X; have BZ := below8 B hjr X; go_wp2_with fail; clear ba0 ba1 ba2 ba3 ba4 ba5 ba6 ba7 ra0 ra1 ra2 ra3 ra4 ra5 ra6 ra7 rf0 rf1 rf2 rf3 rf4 rf5 rf6 rf7; generalize ((((((((v1.setCell ⟨jr, 0, none⟩ (.int .i64 (X 0))).setCell ⟨jr, 1, none⟩ (.int .i64 (X 1))).setCell ⟨jr, 2, none⟩ (.int .i64 (X 2))).setCell ⟨jr, 3, none⟩ (.int .i64 (X 3))).setCell ⟨jr, 4, none⟩ (.int .i64 (X 4))).setCell ⟨jr, 5, none⟩ (.int .i64 (X 5))).setCell ⟨jr, 6, none⟩ (.int .i64 (X 6))).setCell ⟨jr, 7, none⟩ (.int .i64 (X 7))) = vz at *; have Rz := RZ; have za0 := Rz.cell (i := 0) (by decide); have za1 := Rz.cell (i := 1) (by decide); have za2 := Rz.cell (i := 2) (by decide); have za3 := Rz.cell (i := 3) (by decide); have za4 := Rz.cell (i := 4) (by decide); have za5 := Rz.cell (i := 5) (by decide); have za6 := Rz.cell (i := 6) (by decide); have za7 := Rz.cell (i := 7) (by decide); (try dsimp only at za0 za1 za2 za3 za4 za5 za6 za7); exact bodyPost_ret (v := (.agg #[.int .i64 (X 0), .int .i64 (X 1), .int .i64 (X 2), .int .i64 (X 3), .int .i64 (X 4), .int .i64 (X 5), .int .i64 (X 6), .int .i64 (X 7)])) (by simp (maxDischargeDepth := 6) [results, Try.results63, go_sem, *]) rfl ⟨by rw [HX.out], BZ⟩
  have hV : ∀ j, X j = smS M (j : Int) n := fun j => by rw [HV.out, owV, h1]
  obtain ⟨p1, p2, p3, p4⟩ := plB_t h1
  rcases HS.out.below B with h0 | ⟨b, off, rfl, hf⟩
  · exact absurd h0 (by omega)
  clear hf
  have HF : Hid (Cs w b off (n * 2) (MFSlot M)) := by
    rcases HS.out with h0 | ⟨b', off', e, hf⟩
    · exact absurd h0 (by omega)
    · cases e; exact hf
  replace HV : Hid (∀ j, X j = smS M (j : Int) n) := hV
  have HP4 : Hid (slA M n = true) := p4
  have hn2 : n ≤ 12 := p3.2
  clear HS hV p1 p2 p3 p4 h1 hm
  obtain ⟨n0, n1, n2, n3, n4, n5, n6⟩ := id N
  go_wp2_with fail
  clear n0 n1 n2 n3 n4 n5 n6
  go_loopw [13] (fun i wr => ∃ (k : Nat), k ≤ n ∧ i = .int .i64 k ∧ wr.rowIs jb 78 8 (smR M k) ∧ wr.rowIs jr 78 8 (fun _ => .int .i64 0) ∧ Below w.heap.size w wr) (fun i _ => n - (intOf i).toNat)
  case atStart => exact ⟨0, Nat.zero_le _, rfl, Rb.congr (fun i _ => rfl), Rr, B⟩
  case round =>
    clear Rb Rr B N
    obtain ⟨k, hk, rfl, Rb, Rr, B⟩ := hrel
    by_cases hlt : k < n
    · obtain ⟨ow, l, hM⟩ := tupSlot M k
      obtain ⟨c1, c2⟩ := (HF.out.below B HF.out.1).elSlot hlt hM
      have hsl := slB_t (slA_at HP4.out hlt)
      rw [hM] at hsl
      have hsm := smS_bd (o := ow) HP4.out k (Nat.le_of_lt hlt)
      have HLT : Hid (k < n) := hlt
      have hli : (k : Int) < (n : Int) := by omega
      obtain ⟨oN, rfl⟩ := Int.eq_ofNat_of_zero_le hsl.1.1
      have ho8 : oN < 8 := by have := hsl.1.2; omega
      have ho9 : (oN : Int) < 8 := by omega
      have hbc := Rb.cell ho8
      have hbf := Rb.frozen oN
      have HNX := smS_next (k := k) (l := l) hM
      have hw1 : IntKind.i64.wrap (smS M (oN : Int) k + l) = smS M (oN : Int) k + l := Go.IntWalk.i64_in _ ⟨by omega, by omega⟩
      have hx1 : wrap64 (smS M (oN : Int) k + l) = smS M (oN : Int) k + l := Go.IntWalk.wrap64_in _ ⟨by omega, by omega⟩
      have hjb' := Rb.lt
      have hjr' := Rr.lt
      have Rb' := rowIs_none Rb (Below.nw wr (.cells #[.int .i64 (oN : Int), .int .i64 l] 60)) Rb.lt
      have Rr' := rowIs_none Rr (Below.nw wr (.cells #[.int .i64 (oN : Int), .int .i64 l] 60)) Rr.lt
      have B' := B.trans ((Below.nw wr (.cells #[.int .i64 (oN : Int), .int .i64 l] 60)).mono B.size)
      have Z := Bx2.new wr (.int .i64 (oN : Int)) (.int .i64 l) 60
      have HNX2 : Hid (∀ j : Nat, smS M (j : Int) (k + 1) = if j = oN then smS M (j : Int) k + l else smS M (j : Int) k) := HNX
      have dz : jb ≠ wr.heap.size := by omega
      clear hM hsl hsm HNX hk hlt Rb Rr B hbc hbf hjb' hjr'
      go_upto_region 7 with fail
      clear c1 c2
      generalize wr.alloc (.cells #[.int .i64 (oN : Int), .int .i64 l] 60) = w4 at *
      generalize wr.heap.size = jz at *
      have y1 : w4.drew.cell? ⟨jb, oN, none⟩ = some (.int .i64 (smS M (oN : Int) k)) := Rb'.cell ho8
      have y2 : w4.drew.frozen? ⟨jb, oN, none⟩ = false := Rb'.frozen oN
      have Z1 := (Bx2.drew Z)
      have Z2 := Z1.setO dz oN (.int .i64 (smS M (oN : Int) k + l))
      obtain ⟨z0, z1, z2, z3, z4⟩ := id Z1
      obtain ⟨zz0, zz1, zz2, zz3, zz4⟩ := id Z2
      have RB : (w4.drew.setCell ⟨jb, oN, none⟩ (.int .i64 (smS M (oN : Int) k + l))).rowIs jb 78 8 (smR M (k + 1)) := ((show w4.drew.rowIs jb 78 8 (smR M k) from Rb').set oN _).congr (fun i _ => by
        show (if i = oN then _ else smR M k i) = smR M (k + 1) i
        unfold smR
        rw [HNX2.out i]
        by_cases e : i = oN
        · subst e; rw [if_pos rfl, if_pos rfl]
        · rw [if_neg e, if_neg e])
      have RR : (w4.drew.setCell ⟨jb, oN, none⟩ (.int .i64 (smS M (oN : Int) k + l))).rowIs jr 78 8 (fun _ => .int .i64 0) := (show w4.drew.rowIs jr 78 8 (fun _ => .int .i64 0) from Rr').setOther (fun e => d1 e.symm) _
      have BB := (Below.drew B').setCell (p := ⟨jb, oN, none⟩) hjb (.int .i64 (smS M (oN : Int) k + l))
      clear Rb' Rr' B' Z Z1 Z2
      generalize smS M (oN : Int) k = u at *
      refine wp_region_held_drew (S := (fun w' => w'.cell? ⟨jz, 0, none⟩ = some (.int .i64 (oN : Int)) ∧ w'.cell? ⟨jz, 1, none⟩ = some (.int .i64 l))) (by kernel_rfl) ?_ (fun hHeld => ?_)
      · first | exact ⟨z1, z2⟩ | exact ⟨zz1, zz2⟩
      generalize w4.drew = vx at *
      refine wpAnyH_take (i := 0) (v := ?_) (by rw [List.getElem?_toArray]; rfl) (by kernel_rfl) (by kernel_rfl) (by kernel_rfl) (by intro _ _ _ h; exact h) (Or.inl ⟨by rfl, ?_⟩) (by assumption) ?_
      rotate_left
      · (intro w hSw; (try dsimp only at hSw); go_simp; all_goals with_reducible rfl)
      (try simp only [Act.put, List.setIfInBounds_toArray, List.set_cons_zero, List.set_cons_succ])
      refine wpAnyH_take (i := 1) (v := ?_) (by rw [List.getElem?_toArray]; rfl) (by kernel_rfl) (by kernel_rfl) (by kernel_rfl) (by intro _ _ _ h; exact h) (Or.inl ⟨by rfl, ?_⟩) (by assumption) ?_
      rotate_left
      · (intro w hSw; (try dsimp only at hSw); go_simp; all_goals with_reducible rfl)
      (try simp only [Act.put, List.setIfInBounds_toArray, List.set_cons_zero, List.set_cons_succ])
      refine wpAnyH_take (i := 2) (v := ?_) (by rw [List.getElem?_toArray]; rfl) (by kernel_rfl) (by kernel_rfl) (by kernel_rfl) (by intro _ _ _ h; exact h) (Or.inl ⟨by rfl, ?_⟩) (by assumption) ?_
      rotate_left
      · (intro w hSw; (try dsimp only at hSw); go_simp; all_goals with_reducible rfl)
      (try simp only [Act.put, List.setIfInBounds_toArray, List.set_cons_zero, List.set_cons_succ])
      refine wpAnyH_take (i := 4) (v := ?_) (by rw [List.getElem?_toArray]; rfl) (by kernel_rfl) (by kernel_rfl) (by kernel_rfl) (by intro _ _ _ h; exact h) (Or.inl ⟨by rfl, ?_⟩) (by assumption) ?_
      rotate_left
      · (intro w hSw; (try dsimp only at hSw); go_simp; all_goals with_reducible rfl)
      (try simp only [Act.put, List.setIfInBounds_toArray, List.set_cons_zero, List.set_cons_succ])
      refine wpAnyH_take (i := 5) (v := ?_) (by rw [List.getElem?_toArray]; rfl) (by kernel_rfl) (by kernel_rfl) (by kernel_rfl) (by intro _ _ _ h; exact h) (Or.inl ⟨by rfl, ?_⟩) (by assumption) ?_
      rotate_left
      · (intro w hSw; (try dsimp only at hSw); go_simp; all_goals with_reducible rfl)
      (try simp only [Act.put, List.setIfInBounds_toArray, List.set_cons_zero, List.set_cons_succ])
      refine wpAnyH_ready (rs := [3]) (by kernel_rfl) (by simp) ?_
      refine (AllReadyH.cons (by rw [List.getElem?_toArray]; rfl) (fun K hK => ?_) AllReadyH.nil)
      go_simp
      refine hK.out _ _ ?_ (fun hHeld => ?_)
      · first | exact ⟨z1, z2⟩ | exact ⟨zz1, zz2⟩
      clear hK K
      (try simp only [Act.put, List.setIfInBounds_toArray, List.set_cons_zero, List.set_cons_succ])
      refine wpAnyH_take (i := 6) (v := ?_) (by rw [List.getElem?_toArray]; rfl) (by kernel_rfl) (by kernel_rfl) (by kernel_rfl) (by intro _ _ _ h; exact h) (Or.inl ⟨by rfl, ?_⟩) (by assumption) ?_
      rotate_left
      · (intro w hSw; (try dsimp only at hSw); go_simp; all_goals with_reducible rfl)
      (try simp only [Act.put, List.setIfInBounds_toArray, List.set_cons_zero, List.set_cons_succ])
      refine wpAnyH_take (i := 7) (v := ?_) (by rw [List.getElem?_toArray]; rfl) (by kernel_rfl) (by kernel_rfl) (by kernel_rfl) (by intro _ _ _ h; exact h) (Or.inl ⟨by rfl, ?_⟩) (by assumption) ?_
      rotate_left
      · (intro w hSw; (try dsimp only at hSw); go_simp; all_goals with_reducible rfl)
      (try simp only [Act.put, List.setIfInBounds_toArray, List.set_cons_zero, List.set_cons_succ])
      refine wpAnyH_ready (rs := [8]) (by kernel_rfl) (by simp) ?_
      refine (AllReadyH.cons (by rw [List.getElem?_toArray]; rfl) (fun K hK => ?_) AllReadyH.nil)
      go_simp
      refine hK.out _ _ ?_ (fun hHeld => ?_)
      · first | exact ⟨z1, z2⟩ | exact ⟨zz1, zz2⟩
      clear hK K
      (try simp only [Act.put, List.setIfInBounds_toArray, List.set_cons_zero, List.set_cons_succ])
      refine wpAnyH_done (by kernel_rfl) ?_ _
      (try simp only [hw1, hx1])
      clear zz0 zz1 zz2 zz3 zz4 z0 z1 z2 z3 z4 y1 y2
      generalize vx.setCell ⟨jb, oN, none⟩ (.int .i64 (u + l)) = vq at *
      go_wp2_with fail
      go_roundw
      case rel => exact ⟨k + 1, HLT.out, by go_num, RB, RR, BB⟩
      case measure => have hlt' := HLT.out; simp [intOf]; omega
    · have hkn : k = n := by omega
      subst hkn
      have hli : ¬ (k : Int) < (k : Int) := by omega
      replace Rb := Rb.congr (g := fun j => .int .i64 (X j)) (fun i _ => by show _ = Value.int .i64 (X i); rw [HV.out]; rfl)
      clear HV HF hjb d1 d2 HP4
      have ba0 := Rb.cell (i := 0) (by decide); have ba1 := Rb.cell (i := 1) (by decide); have ba2 := Rb.cell (i := 2) (by decide); have ba3 := Rb.cell (i := 3) (by decide); have ba4 := Rb.cell (i := 4) (by decide); have ba5 := Rb.cell (i := 5) (by decide); have ba6 := Rb.cell (i := 6) (by decide); have ba7 := Rb.cell (i := 7) (by decide); have ra0 := Rr.cell (i := 0) (by decide); have ra1 := Rr.cell (i := 1) (by decide); have ra2 := Rr.cell (i := 2) (by decide); have ra3 := Rr.cell (i := 3) (by decide); have ra4 := Rr.cell (i := 4) (by decide); have ra5 := Rr.cell (i := 5) (by decide); have ra6 := Rr.cell (i := 6) (by decide); have ra7 := Rr.cell (i := 7) (by decide); have rf0 := Rr.frozen 0; have rf1 := Rr.frozen 1; have rf2 := Rr.frozen 2; have rf3 := Rr.frozen 3; have rf4 := Rr.frozen 4; have rf5 := Rr.frozen 5; have rf6 := Rr.frozen 6; have rf7 := Rr.frozen 7; (try dsimp only at ba0 ba1 ba2 ba3 ba4 ba5 ba6 ba7 ra0 ra1 ra2 ra3 ra4 ra5 ra6 ra7); have RZ := row8 Rr X; have BZ := below8 B hjr X; go_wp2_with fail; clear ba0 ba1 ba2 ba3 ba4 ba5 ba6 ba7 ra0 ra1 ra2 ra3 ra4 ra5 ra6 ra7 rf0 rf1 rf2 rf3 rf4 rf5 rf6 rf7; generalize ((((((((wr.setCell ⟨jr, 0, none⟩ (.int .i64 (X 0))).setCell ⟨jr, 1, none⟩ (.int .i64 (X 1))).setCell ⟨jr, 2, none⟩ (.int .i64 (X 2))).setCell ⟨jr, 3, none⟩ (.int .i64 (X 3))).setCell ⟨jr, 4, none⟩ (.int .i64 (X 4))).setCell ⟨jr, 5, none⟩ (.int .i64 (X 5))).setCell ⟨jr, 6, none⟩ (.int .i64 (X 6))).setCell ⟨jr, 7, none⟩ (.int .i64 (X 7))) = vz at *; have Rz := RZ; have za0 := Rz.cell (i := 0) (by decide); have za1 := Rz.cell (i := 1) (by decide); have za2 := Rz.cell (i := 2) (by decide); have za3 := Rz.cell (i := 3) (by decide); have za4 := Rz.cell (i := 4) (by decide); have za5 := Rz.cell (i := 5) (by decide); have za6 := Rz.cell (i := 6) (by decide); have za7 := Rz.cell (i := 7) (by decide); (try dsimp only at za0 za1 za2 za3 za4 za5 za6 za7); exact bodyPost_ret (v := (.agg #[.int .i64 (X 0), .int .i64 (X 1), .int .i64 (X 2), .int .i64 (X 3), .int .i64 (X 4), .int .i64 (X 5), .int .i64 (X 6), .int .i64 (X 7)])) (by simp (maxDischargeDepth := 6) [results, Try.results63, go_sem, *]) rfl ⟨by rw [HX.out], BZ⟩

/- The owners of a plan, in the program. -/
def owQ (s g : Int) (M : Nat → SlT) (n : Nat) : Nat → List Int
  | 0 => []
  | j + 1 => match decide (0 < owV s g M n j) with | true => owQ s g M n j ++ [(j : Int)] | false => owQ s g M n j
theorem index8 (X : Nat → Int) {q : Nat} (hq : q < 8) (w : World) : (Instr.index 78 (.agg #[.int .i64 (X 0), .int .i64 (X 1), .int .i64 (X 2), .int .i64 (X 3), .int .i64 (X 4), .int .i64 (X 5), .int .i64 (X 6), .int .i64 (X 7)]) (.int .i64 (q : Int))).run Try.prog w = .ok (.int .i64 (X q)) w := by
  rcases (show q = 0 ∨ q = 1 ∨ q = 2 ∨ q = 3 ∨ q = 4 ∨ q = 5 ∨ q = 6 ∨ q = 7 by omega) with rfl | rfl | rfl | rfl | rfl | rfl | rfl | rfl
  all_goals kernel_rfl
theorem sm_has {M : Nat → SlT} {n : Nat} {o : Int} (hA : slA M n = true) : ∀ k, k ≤ n → decide (0 < smS M o k) = hasO M o k
  | 0, _ => by rw [smS, hasO]; rfl
  | k + 1, hk => by
    have ih := sm_has (o := o) hA k (by omega)
    have hb := smS_bd (o := o) hA k (by omega)
    have hl := (slB_t (slA_at hA (show k < n by omega))).2
    rw [smS, hasO, ← ih]
    cases ((M k).1 == o)
    · simp
    · show decide (0 < smS M o k + (M k).2) = _
      rw [decide_eq_true (show 0 < smS M o k + (M k).2 by omega)]
      simp
theorem owQ_is (s g : Int) (M : Nat → SlT) (n : Nat) : owQ s g M n 8 = owA s g M n := by
  cases h : plB s g M n
  · have e : ∀ j, owQ s g M n j = [] := fun j => by
      induction j with
      | zero => rfl
      | succ j ih => rw [owQ, ih, show owV s g M n j = 0 by unfold owV; rw [h]]; rfl
    rw [e, owA, h]
  · have hA := (plB_t h).2.2.2
    have e : ∀ j, owQ s g M n j = owL M n j := fun j => by
      induction j with
      | zero => rfl
      | succ j ih =>
        have ev : owV s g M n j = smS M (j : Int) n := by unfold owV; rw [h]
        rw [owQ, owL, ih, ev, sm_has hA n (Nat.le_refl _)]
        cases hasO M (j : Int) n <;> rfl
    rw [e, owA, h]
theorem owQ_len (s g : Int) (M : Nat → SlT) (n : Nat) : ∀ j, (owQ s g M n j).length ≤ j
  | 0 => Nat.le_refl _
  | j + 1 => by
    have ih := owQ_len s g M n j
    rw [owQ]
    cases decide (0 < owV s g M n j)
    · exact Nat.le_succ_of_le ih
    · show (owQ s g M n j ++ [(j : Int)]).length ≤ j + 1
      rw [List.length_append]
      simp
      exact ih
set_option maxRecDepth 100000 in
set_option maxHeartbeats 8000000 in
theorem implOwnersOf_any (s g : Int) (a : Option Addr) (n c : Nat) (M : Nat → SlT) (w : World) (hm : n ≤ maxLen) (hs : SrcC w a (n * 2) (MFSlot M)) :
    Calls Try.prog 33 #[.agg #[.int .i64 s, .int .i64 g, .slice a n c]] w fun e w' => ∃ v, e = .returned v ∧ w'.ownsRow w.heap.size 3 1 v (owA s g M n).length (irow (owA s g M n)) ∧ Below w.heap.size w w' := by
  have B := Below.nw w (.cells #[.int .i64 s, .int .i64 g, .slice a n c] 29)
  have N := Tx3.new w (.int .i64 s) (.int .i64 g) (.slice a n c) 29
  have HS : Hid (SrcC w a (n * 2) (MFSlot M)) := hs
  clear hs
  have C1 := fun w' h => owned_any s g a n c M w' hm h
  rw [← owQ_is]
  have HQ1 : Hid (∀ j, decide (0 < owV s g M n j) = true → owQ s g M n (j + 1) = owQ s g M n j ++ [(j : Int)]) := fun j h => by rw [owQ, h]
  have HQ0 : Hid (∀ j, decide (0 < owV s g M n j) = false → owQ s g M n (j + 1) = owQ s g M n j) := fun j h => by rw [owQ, h]
  have HLN : Hid (∀ j, (owQ s g M n j).length ≤ j) := owQ_len s g M n
  have HQZ : Hid (owQ s g M n 0 = []) := rfl
  unfold ow8 at C1
  generalize owV s g M n = X at *
  generalize owQ s g M n = L at *
  go_enter Try.func33, Try.ntmps33
  go_upto_region 1 with fail
  generalize w.alloc (.cells #[.int .i64 s, .int .i64 g, .slice a n c] 29) = v at *
  obtain ⟨n0, n1, n2, n3, n4, n5, n6⟩ := id N
  go_wp2_with fail
  refine (C1 _ (HS.out.below B)).mono ?_
  rintro e v1 ⟨rfl, hb⟩
  clear n0 n1 n2 n3 n4 n5 n6
  replace B := B.trans (hb.mono B.size)
  clear hb C1 N
  have hv1 : w.heap.size ≤ v1.heap.size := B.size
  go_wp2_with fail
  go_loopw [3, 8] (fun s3 i wr => ∃ (q : Nat), q ≤ 8 ∧ i = .int .i64 q ∧ wr.ownsRow w.heap.size 3 1 s3 (L q).length (irow (L q)) ∧ Below w.heap.size w wr) (fun _ i _ => 8 - (intOf i).toNat)
  case atStart => exact ⟨0, Nat.zero_le _, rfl, by rw [HQZ.out]; exact nil_int v1 w.heap.size, B⟩
  case round =>
    clear B
    obtain ⟨q, hq, rfl, OW, B⟩ := hrel
    by_cases hlt : q < 8
    · have hli : (q : Int) < (8 : Int) := by omega
      have HQ : Hid (q < 8) := hlt
      have hix := index8 X hlt
      by_cases hX : 0 < X q
      · have HL : Hid (L (q + 1) = L q ++ [(q : Int)]) := HQ1.out q (decide_eq_true hX)
        have hlen : (L q).length ≤ 64 := Nat.le_trans (HLN.out q) (by omega)
        have hjs : w.heap.size ≤ wr.heap.size := B.size
        clear hlt hq
        generalize L q = Lq at *
        go_upto_region 7 with (at_builtin; refine add_int rfl _ _ rfl w.heap.size Lq _ rfl OW rfl hlen hjs ?_; intro v' w9 O9 hg9 hn9)
        have HO9 : Hid (w9.ownsRow w.heap.size 3 1 v' (Lq ++ [(q : Int)]).length (irow (Lq ++ [(q : Int)]))) := O9
        have B9 := B.trans (grown_belowK OW hg9 hjs)
        clear O9 OW hg9 hn9 B hjs hix
        go_wp2_with fail
        go_roundw
        case rel => exact ⟨q + 1, HQ.out, by go_num, by rw [HL.out]; exact HO9.out, B9⟩
        case measure => have hlt' := HQ.out; simp [intOf]; omega
      · have HL : Hid (L (q + 1) = L q) := HQ0.out q (decide_eq_false hX)
        clear hlt hq
        generalize L q = Lq at *
        have HO9 : Hid (wr.ownsRow w.heap.size 3 1 u3 Lq.length (irow Lq)) := OW
        clear OW
        go_wp2_with fail
        go_roundw
        case rel => exact ⟨q + 1, HQ.out, by go_num, by rw [HL.out]; exact HO9.out, B⟩
        case measure => have hlt' := HQ.out; simp [intOf]; omega
    · have hkn : q = 8 := by omega
      subst hkn
      have hli : ¬ ((8 : Nat) : Int) < (8 : Int) := by omega
      have HO9 : Hid (wr.ownsRow w.heap.size 3 1 u3 (L 8).length (irow (L 8))) := OW
      clear OW
      go_wp2_with fail
      go_ret
      exact ⟨_, rfl, HO9.out, B⟩
end Go.Proofs.Ytkdbgchmknanlaa
