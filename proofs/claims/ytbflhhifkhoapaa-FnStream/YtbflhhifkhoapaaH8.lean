/- Contracts of the reader: msg. -/
import Derived.Test.YtbflhhifkhoapaaH7
import Derived.Test.YtbflhhifkhoapaaH4
import Derived.WalkKit
import Derived.WalkSpells
import Derived.WalkLawsBesides
import Derived.Deep.RegionHeld
namespace Go.Proofs.Ytbflhhifkhoapaa
open Go.RowKit
set_option linter.unusedVariables false
theorem But.alcH {p : Nat} {a w : World} (h : But p a w) (o : Obj) : But p a (w.alloc o) :=
  ⟨h.1, h.2.1, h.2.2.1, by rw [World.size_alloc]; have := h.2.2.2.1; omega, fun k hk hp => (((Below.refl w.heap.size w).alloc (Nat.le_refl _) o).block k (Nat.lt_of_lt_of_le hk h.2.2.2.1)).trans (h.2.2.2.2 k hk hp)⟩
theorem But.newH {p j : Nat} {a w : World} (h : But p a w) (hj : a.heap.size ≤ j) (o : Nat) (u : Value) : But p a (w.setCell ⟨j, o, none⟩ u) :=
  ⟨h.1, h.2.1, h.2.2.1, by rw [World.size_setCell]; exact h.2.2.2.1, fun k hk hp => (Below.heap_setCell w ⟨j, o, none⟩ u k (by intro e; have : k = j := e; omega)).trans (h.2.2.2.2 k hk hp)⟩
theorem Box8.but {p j : Nat} {w w' : World} {k fr to no lo hi sl : Int} {s : ByteArray} (h : Box8 w j k fr to no lo hi sl s) (hb : But p w w') (hj : j ≠ p) : Box8 w' j k fr to no lo hi sl s := by
  obtain ⟨h0, h1, h2, h3, h4, h5, h6, h7, h8⟩ := h
  exact ⟨Nat.lt_of_lt_of_le h0 hb.2.2.2.1, by rw [hb.cell h0 hj]; exact h1, by rw [hb.cell h0 hj]; exact h2, by rw [hb.cell h0 hj]; exact h3, by rw [hb.cell h0 hj]; exact h4, by rw [hb.cell h0 hj]; exact h5, by rw [hb.cell h0 hj]; exact h6, by rw [hb.cell h0 hj]; exact h7, by rw [hb.cell h0 hj]; exact h8⟩
theorem Thaw8.but {p j : Nat} {w w' : World} (h : Thaw8 w j) (hb : But p w w') (h0 : j < w.heap.size) (hj : j ≠ p) : Thaw8 w' j := by
  obtain ⟨f0, f1, f2, f3, f4, f5, f6, f7⟩ := h
  exact ⟨by rw [hb.frozen h0 hj]; exact f0, by rw [hb.frozen h0 hj]; exact f1, by rw [hb.frozen h0 hj]; exact f2, by rw [hb.frozen h0 hj]; exact f3, by rw [hb.frozen h0 hj]; exact f4, by rw [hb.frozen h0 hj]; exact f5, by rw [hb.frozen h0 hj]; exact f6, by rw [hb.frozen h0 hj]; exact f7⟩
theorem Rd.setO {w : World} {p j : Nat} {a : Option Addr} {m c : Nat} {f : Nat → Int} {x : Int} (h : Rd w p a m c f x) (hj : p < j) (o : Nat) (u : Value) : Rd (w.setCell ⟨j, o, none⟩ u) p a m c f x := by
  obtain ⟨h0, h1, h2, h3, h4, h5, h6, h7, h8, h9, h10⟩ := h
  have hne : ∀ q, (⟨j, o, none⟩ : Addr) ≠ ⟨p, q, none⟩ := fun q e => by have : j = p := congrArg Addr.block e; omega
  refine ⟨by simpa using h0, by rw [World.cell?_setCell_other _ _ _ _ (hne _)]; exact h1, by rw [World.cell?_setCell_other _ _ _ _ (hne _)]; exact h2, by simpa using h3, h4, h5, h6, h7, ?_, h9, h10⟩
  rcases h8 with h8 | ⟨b, off, h8, hB⟩
  · exact .inl h8
  · have := h9 b off h8
    exact .inr ⟨b, off, h8, by simpa using hB.1, fun i hi => by rw [World.cell?_setCell_other _ _ _ _ (fun e => by have : j = b := congrArg Addr.block e; omega)]; exact hB.2 i hi⟩
set_option maxRecDepth 100000 in
set_option maxHeartbeats 8000000 in
theorem msg_nokind (p b off m c : Nat) (f : Nat → Int) (w : World) (hr : Rd w p (some ⟨b, off, none⟩) m c f 0) (hm : 1 ≤ m) (hk : ¬ (1 ≤ f 0 ∧ f 0 ≤ 3)) :
    Calls Try.prog 46 #[.pointer (some ⟨p, 0, none⟩)] w fun e w' => e = .panicked (gave 3) ∧ But p w w' := by
  have R := Box8.new w 0 0 0 0 0 0 0 ⟨#[]⟩ 27
  have T := Thaw8.new w 0 0 0 0 0 0 0 ⟨#[]⟩ 27
  have BA := (Below.refl w.heap.size w).alloc (Nat.le_refl _) (.cells #[.int .i64 0, .int .i64 0, .int .i64 0, .int .i64 0, .int .i64 0, .int .i64 0, .int .i64 0, .string ⟨#[]⟩] 27)
  have RD := hr.below BA
  have BT := (But.refl p w).alcH (.cells #[.int .i64 0, .int .i64 0, .int .i64 0, .int .i64 0, .int .i64 0, .int .i64 0, .int .i64 0, .string ⟨#[]⟩] 27)
  have hpw : p < w.heap.size := hr.1
  have hJp : w.heap.size ≠ p := by omega
  clear BA hr
  go_enter Try.func46, Try.ntmps46
  go_wp2_with fail
  refine (kind_no p b off m c f _ RD hm hk).mono ?_
  rintro e v ⟨rfl, hb⟩
  (try go_wp2_with fail)
  exact ⟨rfl, rfl, BT.trans hb⟩
set_option maxRecDepth 100000 in
set_option maxHeartbeats 8000000 in
theorem msg_t1 (p b off m c : Nat) (f : Nat → Int) (w : World) (hr : Rd w p (some ⟨b, off, none⟩) m c f 0) (hm : 1 ≤ m) (hk : f 0 = 1) (h0 : fldB f m (ats f m 0) = true) (h1 : fldB f m (ats f m 1) = true) (h2 : fldB f m (ats f m 2) = true) :
    Calls Try.prog 46 #[.pointer (some ⟨p, 0, none⟩)] w fun e w' => e = .returned (.agg #[.int .i64 1, .int .i64 (val f m 0), .int .i64 (val f m 1), .int .i64 (val f m 2), .int .i64 0, .int .i64 0, .int .i64 0, .string ⟨#[]⟩]) ∧ Rd w' p (some ⟨b, off, none⟩) m c f (ats f m 3) ∧ But p w w' := by
  have R := Box8.new w 0 0 0 0 0 0 0 ⟨#[]⟩ 27
  have T := Thaw8.new w 0 0 0 0 0 0 0 ⟨#[]⟩ 27
  have BA := (Below.refl w.heap.size w).alloc (Nat.le_refl _) (.cells #[.int .i64 0, .int .i64 0, .int .i64 0, .int .i64 0, .int .i64 0, .int .i64 0, .int .i64 0, .string ⟨#[]⟩] 27)
  have RD := hr.below BA
  have BT := (But.refl p w).alcH (.cells #[.int .i64 0, .int .i64 0, .int .i64 0, .int .i64 0, .int .i64 0, .int .i64 0, .int .i64 0, .string ⟨#[]⟩] 27)
  have hpw : p < w.heap.size := hr.1
  have hJp : w.heap.size ≠ p := by omega
  clear BA hr
  have CF0 : ∀ v, Rd v p (some ⟨b, off, none⟩) m c f (ats f m 0) → Calls Try.prog 80 #[.pointer (some ⟨p, 0, none⟩)] v fun e w' => e = .returned (.int .i64 (val f m 0)) ∧ Rd w' p (some ⟨b, off, none⟩) m c f (ats f m 1) ∧ But p v w' := fun v h => field_t p (some ⟨b, off, none⟩) m c f (ats f m 0) v h h0
  have CF1 : ∀ v, Rd v p (some ⟨b, off, none⟩) m c f (ats f m 1) → Calls Try.prog 80 #[.pointer (some ⟨p, 0, none⟩)] v fun e w' => e = .returned (.int .i64 (val f m 1)) ∧ Rd w' p (some ⟨b, off, none⟩) m c f (ats f m 2) ∧ But p v w' := fun v h => field_t p (some ⟨b, off, none⟩) m c f (ats f m 1) v h h1
  have CF2 : ∀ v, Rd v p (some ⟨b, off, none⟩) m c f (ats f m 2) → Calls Try.prog 80 #[.pointer (some ⟨p, 0, none⟩)] v fun e w' => e = .returned (.int .i64 (val f m 2)) ∧ Rd w' p (some ⟨b, off, none⟩) m c f (ats f m 3) ∧ But p v w' := fun v h => field_t p (some ⟨b, off, none⟩) m c f (ats f m 2) v h h2
  have hat0 : ats f m 0 = 1 := rfl
  generalize val f m 0 = x0 at *
  generalize val f m 1 = x1 at *
  generalize val f m 2 = x2 at *
  generalize ats f m 0 = y0 at *
  generalize ats f m 1 = y1 at *
  generalize ats f m 2 = y2 at *
  generalize ats f m 3 = y3 at *
  subst hat0
  go_enter Try.func46, Try.ntmps46
  go_wp2_with fail
  refine (kind_any p b off m c f _ RD hm (by omega)).mono ?_
  rintro e v ⟨rfl, RD1, hb⟩
  rw [hk]
  replace R := R.but hb hJp
  replace T := T.but hb (by simp) hJp
  replace BT := BT.trans hb
  clear RD hb
  have RD := RD1
  clear RD1
  have MB := Box8.new v 1 0 0 0 0 0 0 ⟨#[]⟩ 27
  have TM := Thaw8.new v 1 0 0 0 0 0 0 ⟨#[]⟩ 27
  have hjw : w.heap.size < v.heap.size := R.1
  have hjm : v.heap.size ≠ p := by omega
  have hjp : p < v.heap.size := by omega
  have hjJ : v.heap.size ≠ w.heap.size := by omega
  have hjle : w.heap.size ≤ v.heap.size := by omega
  replace T := T.alloc R.1 (.cells #[.int .i64 1, .int .i64 0, .int .i64 0, .int .i64 0, .int .i64 0, .int .i64 0, .int .i64 0, .string ⟨#[]⟩] 27)
  replace R := R.alloc (.cells #[.int .i64 1, .int .i64 0, .int .i64 0, .int .i64 0, .int .i64 0, .int .i64 0, .int .i64 0, .string ⟨#[]⟩] 27)
  replace RD := RD.below ((Below.refl _ _).alloc (Nat.le_refl _) (.cells #[.int .i64 1, .int .i64 0, .int .i64 0, .int .i64 0, .int .i64 0, .int .i64 0, .int .i64 0, .string ⟨#[]⟩] 27))
  replace BT := BT.alcH (.cells #[.int .i64 1, .int .i64 0, .int .i64 0, .int .i64 0, .int .i64 0, .int .i64 0, .int .i64 0, .string ⟨#[]⟩] 27)

  go_wp2_with fail
  refine (CF0 _ RD).mono ?_
  rintro e v0 ⟨rfl, RD1, hb⟩
  replace T := T.but hb R.1 hJp
  replace TM := TM.but hb MB.1 hjm
  replace R := R.but hb hJp
  replace MB := MB.but hb hjm
  replace BT := BT.trans hb
  clear RD hb CF0
  have RD := RD1
  clear RD1
  obtain ⟨b0, b1, b2, b3, b4, b5, b6, b7, b8⟩ := id MB; obtain ⟨s0, s1, s2, s3, s4, s5, s6, s7⟩ := id TM
  skip
  go_wp2_with fail
  clear b0 b1 b2 b3 b4 b5 b6 b7 b8 s0 s1 s2 s3 s4 s5 s6 s7
  skip
  replace RD := RD.setO hjp 1 (.int .i64 x0)
  replace BT := BT.newH hjle 1 (.int .i64 x0)
  replace R := R.setO hjJ 1 (.int .i64 x0)
  replace T := T.set ⟨v.heap.size, 1, none⟩ (.int .i64 x0)
  replace TM := TM.set ⟨v.heap.size, 1, none⟩ (.int .i64 x0)
  replace MB := MB.set1 x0
  generalize v0.setCell ⟨v.heap.size, 1, none⟩ (.int .i64 x0) = u0 at *
  refine (CF1 _ RD).mono ?_
  rintro e v1 ⟨rfl, RD1, hb⟩
  replace T := T.but hb R.1 hJp
  replace TM := TM.but hb MB.1 hjm
  replace R := R.but hb hJp
  replace MB := MB.but hb hjm
  replace BT := BT.trans hb
  clear RD hb CF1
  have RD := RD1
  clear RD1
  obtain ⟨b0, b1, b2, b3, b4, b5, b6, b7, b8⟩ := id MB; obtain ⟨s0, s1, s2, s3, s4, s5, s6, s7⟩ := id TM
  skip
  go_wp2_with fail
  clear b0 b1 b2 b3 b4 b5 b6 b7 b8 s0 s1 s2 s3 s4 s5 s6 s7
  skip
  replace RD := RD.setO hjp 2 (.int .i64 x1)
  replace BT := BT.newH hjle 2 (.int .i64 x1)
  replace R := R.setO hjJ 2 (.int .i64 x1)
  replace T := T.set ⟨v.heap.size, 2, none⟩ (.int .i64 x1)
  replace TM := TM.set ⟨v.heap.size, 2, none⟩ (.int .i64 x1)
  replace MB := MB.set2 x1
  generalize v1.setCell ⟨v.heap.size, 2, none⟩ (.int .i64 x1) = u1 at *
  refine (CF2 _ RD).mono ?_
  rintro e v2 ⟨rfl, RD1, hb⟩
  replace T := T.but hb R.1 hJp
  replace TM := TM.but hb MB.1 hjm
  replace R := R.but hb hJp
  replace MB := MB.but hb hjm
  replace BT := BT.trans hb
  clear RD hb CF2
  have RD := RD1
  clear RD1
  obtain ⟨b0, b1, b2, b3, b4, b5, b6, b7, b8⟩ := id MB; obtain ⟨s0, s1, s2, s3, s4, s5, s6, s7⟩ := id TM
  obtain ⟨a0, a1, a2, a3, a4, a5, a6, a7, a8⟩ := id R; obtain ⟨t0, t1, t2, t3, t4, t5, t6, t7⟩ := id T
  go_wp2_with fail
  clear b0 b1 b2 b3 b4 b5 b6 b7 b8 s0 s1 s2 s3 s4 s5 s6 s7
  clear a0 a1 a2 a3 a4 a5 a6 a7 a8 t0 t1 t2 t3 t4 t5 t6 t7
  replace RD := RD.setO hjp 3 (.int .i64 x2)
  replace BT := BT.newH hjle 3 (.int .i64 x2)
  replace R := R.setO hjJ 3 (.int .i64 x2)
  replace T := T.set ⟨v.heap.size, 3, none⟩ (.int .i64 x2)
  replace TM := TM.set ⟨v.heap.size, 3, none⟩ (.int .i64 x2)
  replace MB := MB.set3 x2
  generalize v2.setCell ⟨v.heap.size, 3, none⟩ (.int .i64 x2) = u2 at *
  have RF := ((((((((R.set0 1).set1 x0).set2 x1).set3 x2).set4 0).set5 0).set6 0).set7 ⟨#[]⟩)
  have RDF := ((((((((RD.setO hpw 0 (.int .i64 1)).setO hpw 1 (.int .i64 x0)).setO hpw 2 (.int .i64 x1)).setO hpw 3 (.int .i64 x2)).setO hpw 4 (.int .i64 0)).setO hpw 5 (.int .i64 0)).setO hpw 6 (.int .i64 0)).setO hpw 7 (.string ⟨#[]⟩))
  have BTF := ((((((((BT.newH (Nat.le_refl _) 0 (.int .i64 1)).newH (Nat.le_refl _) 1 (.int .i64 x0)).newH (Nat.le_refl _) 2 (.int .i64 x1)).newH (Nat.le_refl _) 3 (.int .i64 x2)).newH (Nat.le_refl _) 4 (.int .i64 0)).newH (Nat.le_refl _) 5 (.int .i64 0)).newH (Nat.le_refl _) 6 (.int .i64 0)).newH (Nat.le_refl _) 7 (.string ⟨#[]⟩))
  clear R RD BT MB TM T
  generalize ((((((((u2.setCell ⟨w.heap.size, 0, none⟩ (.int .i64 1)).setCell ⟨w.heap.size, 1, none⟩ (.int .i64 x0)).setCell ⟨w.heap.size, 2, none⟩ (.int .i64 x1)).setCell ⟨w.heap.size, 3, none⟩ (.int .i64 x2)).setCell ⟨w.heap.size, 4, none⟩ (.int .i64 0)).setCell ⟨w.heap.size, 5, none⟩ (.int .i64 0)).setCell ⟨w.heap.size, 6, none⟩ (.int .i64 0)).setCell ⟨w.heap.size, 7, none⟩ (.string ⟨#[]⟩)) = vf at *
  obtain ⟨a0, a1, a2, a3, a4, a5, a6, a7, a8⟩ := RF
  exact bodyPost_ret (v := .agg #[.int .i64 1, .int .i64 x0, .int .i64 x1, .int .i64 x2, .int .i64 0, .int .i64 0, .int .i64 0, .string ⟨#[]⟩]) (by simp (maxDischargeDepth := 6) [results, Try.results46, go_sem, a1, a2, a3, a4, a5, a6, a7, a8]) rfl ⟨rfl, RDF, BTF⟩
set_option maxRecDepth 100000 in
set_option maxHeartbeats 8000000 in
theorem msg_f10 (p b off m c : Nat) (f : Nat → Int) (w : World) (hr : Rd w p (some ⟨b, off, none⟩) m c f 0) (hm : 1 ≤ m) (hk : f 0 = 1) (h0 : fldB f m (ats f m 0) = false) :
    Calls Try.prog 46 #[.pointer (some ⟨p, 0, none⟩)] w fun e w' => e = .panicked (gave 4) ∧ But p w w' := by
  have R := Box8.new w 0 0 0 0 0 0 0 ⟨#[]⟩ 27
  have T := Thaw8.new w 0 0 0 0 0 0 0 ⟨#[]⟩ 27
  have BA := (Below.refl w.heap.size w).alloc (Nat.le_refl _) (.cells #[.int .i64 0, .int .i64 0, .int .i64 0, .int .i64 0, .int .i64 0, .int .i64 0, .int .i64 0, .string ⟨#[]⟩] 27)
  have RD := hr.below BA
  have BT := (But.refl p w).alcH (.cells #[.int .i64 0, .int .i64 0, .int .i64 0, .int .i64 0, .int .i64 0, .int .i64 0, .int .i64 0, .string ⟨#[]⟩] 27)
  have hpw : p < w.heap.size := hr.1
  have hJp : w.heap.size ≠ p := by omega
  clear BA hr
  have CX : ∀ v, Rd v p (some ⟨b, off, none⟩) m c f (ats f m 0) → Calls Try.prog 80 #[.pointer (some ⟨p, 0, none⟩)] v fun e w' => e = .panicked (gave 4) ∧ But p v w' := fun v h => field_f p (some ⟨b, off, none⟩) m c f (ats f m 0) v h h0
  have hat0 : ats f m 0 = 1 := rfl
  generalize ats f m 0 = y0 at *
  subst hat0
  go_enter Try.func46, Try.ntmps46
  go_wp2_with fail
  refine (kind_any p b off m c f _ RD hm (by omega)).mono ?_
  rintro e v ⟨rfl, RD1, hb⟩
  rw [hk]
  replace R := R.but hb hJp
  replace T := T.but hb (by simp) hJp
  replace BT := BT.trans hb
  clear RD hb
  have RD := RD1
  clear RD1
  have MB := Box8.new v 1 0 0 0 0 0 0 ⟨#[]⟩ 27
  have TM := Thaw8.new v 1 0 0 0 0 0 0 ⟨#[]⟩ 27
  have hjw : w.heap.size < v.heap.size := R.1
  have hjm : v.heap.size ≠ p := by omega
  have hjp : p < v.heap.size := by omega
  have hjJ : v.heap.size ≠ w.heap.size := by omega
  have hjle : w.heap.size ≤ v.heap.size := by omega
  replace T := T.alloc R.1 (.cells #[.int .i64 1, .int .i64 0, .int .i64 0, .int .i64 0, .int .i64 0, .int .i64 0, .int .i64 0, .string ⟨#[]⟩] 27)
  replace R := R.alloc (.cells #[.int .i64 1, .int .i64 0, .int .i64 0, .int .i64 0, .int .i64 0, .int .i64 0, .int .i64 0, .string ⟨#[]⟩] 27)
  replace RD := RD.below ((Below.refl _ _).alloc (Nat.le_refl _) (.cells #[.int .i64 1, .int .i64 0, .int .i64 0, .int .i64 0, .int .i64 0, .int .i64 0, .int .i64 0, .string ⟨#[]⟩] 27))
  replace BT := BT.alcH (.cells #[.int .i64 1, .int .i64 0, .int .i64 0, .int .i64 0, .int .i64 0, .int .i64 0, .int .i64 0, .string ⟨#[]⟩] 27)

  go_wp2_with fail
  refine (CX _ RD).mono ?_
  rintro e v ⟨rfl, hb⟩
  (try go_wp2_with fail)
  exact ⟨rfl, rfl, BT.trans hb⟩
set_option maxRecDepth 100000 in
set_option maxHeartbeats 8000000 in
theorem msg_f11 (p b off m c : Nat) (f : Nat → Int) (w : World) (hr : Rd w p (some ⟨b, off, none⟩) m c f 0) (hm : 1 ≤ m) (hk : f 0 = 1) (h0 : fldB f m (ats f m 0) = true) (h1 : fldB f m (ats f m 1) = false) :
    Calls Try.prog 46 #[.pointer (some ⟨p, 0, none⟩)] w fun e w' => e = .panicked (gave 4) ∧ But p w w' := by
  have R := Box8.new w 0 0 0 0 0 0 0 ⟨#[]⟩ 27
  have T := Thaw8.new w 0 0 0 0 0 0 0 ⟨#[]⟩ 27
  have BA := (Below.refl w.heap.size w).alloc (Nat.le_refl _) (.cells #[.int .i64 0, .int .i64 0, .int .i64 0, .int .i64 0, .int .i64 0, .int .i64 0, .int .i64 0, .string ⟨#[]⟩] 27)
  have RD := hr.below BA
  have BT := (But.refl p w).alcH (.cells #[.int .i64 0, .int .i64 0, .int .i64 0, .int .i64 0, .int .i64 0, .int .i64 0, .int .i64 0, .string ⟨#[]⟩] 27)
  have hpw : p < w.heap.size := hr.1
  have hJp : w.heap.size ≠ p := by omega
  clear BA hr
  have CF0 : ∀ v, Rd v p (some ⟨b, off, none⟩) m c f (ats f m 0) → Calls Try.prog 80 #[.pointer (some ⟨p, 0, none⟩)] v fun e w' => e = .returned (.int .i64 (val f m 0)) ∧ Rd w' p (some ⟨b, off, none⟩) m c f (ats f m 1) ∧ But p v w' := fun v h => field_t p (some ⟨b, off, none⟩) m c f (ats f m 0) v h h0
  have CX : ∀ v, Rd v p (some ⟨b, off, none⟩) m c f (ats f m 1) → Calls Try.prog 80 #[.pointer (some ⟨p, 0, none⟩)] v fun e w' => e = .panicked (gave 4) ∧ But p v w' := fun v h => field_f p (some ⟨b, off, none⟩) m c f (ats f m 1) v h h1
  have hat0 : ats f m 0 = 1 := rfl
  generalize val f m 0 = x0 at *
  generalize ats f m 0 = y0 at *
  generalize ats f m 1 = y1 at *
  subst hat0
  go_enter Try.func46, Try.ntmps46
  go_wp2_with fail
  refine (kind_any p b off m c f _ RD hm (by omega)).mono ?_
  rintro e v ⟨rfl, RD1, hb⟩
  rw [hk]
  replace R := R.but hb hJp
  replace T := T.but hb (by simp) hJp
  replace BT := BT.trans hb
  clear RD hb
  have RD := RD1
  clear RD1
  have MB := Box8.new v 1 0 0 0 0 0 0 ⟨#[]⟩ 27
  have TM := Thaw8.new v 1 0 0 0 0 0 0 ⟨#[]⟩ 27
  have hjw : w.heap.size < v.heap.size := R.1
  have hjm : v.heap.size ≠ p := by omega
  have hjp : p < v.heap.size := by omega
  have hjJ : v.heap.size ≠ w.heap.size := by omega
  have hjle : w.heap.size ≤ v.heap.size := by omega
  replace T := T.alloc R.1 (.cells #[.int .i64 1, .int .i64 0, .int .i64 0, .int .i64 0, .int .i64 0, .int .i64 0, .int .i64 0, .string ⟨#[]⟩] 27)
  replace R := R.alloc (.cells #[.int .i64 1, .int .i64 0, .int .i64 0, .int .i64 0, .int .i64 0, .int .i64 0, .int .i64 0, .string ⟨#[]⟩] 27)
  replace RD := RD.below ((Below.refl _ _).alloc (Nat.le_refl _) (.cells #[.int .i64 1, .int .i64 0, .int .i64 0, .int .i64 0, .int .i64 0, .int .i64 0, .int .i64 0, .string ⟨#[]⟩] 27))
  replace BT := BT.alcH (.cells #[.int .i64 1, .int .i64 0, .int .i64 0, .int .i64 0, .int .i64 0, .int .i64 0, .int .i64 0, .string ⟨#[]⟩] 27)

  go_wp2_with fail
  refine (CF0 _ RD).mono ?_
  rintro e v0 ⟨rfl, RD1, hb⟩
  replace T := T.but hb R.1 hJp
  replace TM := TM.but hb MB.1 hjm
  replace R := R.but hb hJp
  replace MB := MB.but hb hjm
  replace BT := BT.trans hb
  clear RD hb CF0
  have RD := RD1
  clear RD1
  obtain ⟨b0, b1, b2, b3, b4, b5, b6, b7, b8⟩ := id MB; obtain ⟨s0, s1, s2, s3, s4, s5, s6, s7⟩ := id TM
  skip
  go_wp2_with fail
  clear b0 b1 b2 b3 b4 b5 b6 b7 b8 s0 s1 s2 s3 s4 s5 s6 s7
  skip
  replace RD := RD.setO hjp 1 (.int .i64 x0)
  replace BT := BT.newH hjle 1 (.int .i64 x0)
  replace R := R.setO hjJ 1 (.int .i64 x0)
  replace T := T.set ⟨v.heap.size, 1, none⟩ (.int .i64 x0)
  replace TM := TM.set ⟨v.heap.size, 1, none⟩ (.int .i64 x0)
  replace MB := MB.set1 x0
  generalize v0.setCell ⟨v.heap.size, 1, none⟩ (.int .i64 x0) = u0 at *
  refine (CX _ RD).mono ?_
  rintro e v ⟨rfl, hb⟩
  (try go_wp2_with fail)
  exact ⟨rfl, rfl, BT.trans hb⟩
set_option maxRecDepth 100000 in
set_option maxHeartbeats 8000000 in
theorem msg_f12 (p b off m c : Nat) (f : Nat → Int) (w : World) (hr : Rd w p (some ⟨b, off, none⟩) m c f 0) (hm : 1 ≤ m) (hk : f 0 = 1) (h0 : fldB f m (ats f m 0) = true) (h1 : fldB f m (ats f m 1) = true) (h2 : fldB f m (ats f m 2) = false) :
    Calls Try.prog 46 #[.pointer (some ⟨p, 0, none⟩)] w fun e w' => e = .panicked (gave 4) ∧ But p w w' := by
  have R := Box8.new w 0 0 0 0 0 0 0 ⟨#[]⟩ 27
  have T := Thaw8.new w 0 0 0 0 0 0 0 ⟨#[]⟩ 27
  have BA := (Below.refl w.heap.size w).alloc (Nat.le_refl _) (.cells #[.int .i64 0, .int .i64 0, .int .i64 0, .int .i64 0, .int .i64 0, .int .i64 0, .int .i64 0, .string ⟨#[]⟩] 27)
  have RD := hr.below BA
  have BT := (But.refl p w).alcH (.cells #[.int .i64 0, .int .i64 0, .int .i64 0, .int .i64 0, .int .i64 0, .int .i64 0, .int .i64 0, .string ⟨#[]⟩] 27)
  have hpw : p < w.heap.size := hr.1
  have hJp : w.heap.size ≠ p := by omega
  clear BA hr
  have CF0 : ∀ v, Rd v p (some ⟨b, off, none⟩) m c f (ats f m 0) → Calls Try.prog 80 #[.pointer (some ⟨p, 0, none⟩)] v fun e w' => e = .returned (.int .i64 (val f m 0)) ∧ Rd w' p (some ⟨b, off, none⟩) m c f (ats f m 1) ∧ But p v w' := fun v h => field_t p (some ⟨b, off, none⟩) m c f (ats f m 0) v h h0
  have CF1 : ∀ v, Rd v p (some ⟨b, off, none⟩) m c f (ats f m 1) → Calls Try.prog 80 #[.pointer (some ⟨p, 0, none⟩)] v fun e w' => e = .returned (.int .i64 (val f m 1)) ∧ Rd w' p (some ⟨b, off, none⟩) m c f (ats f m 2) ∧ But p v w' := fun v h => field_t p (some ⟨b, off, none⟩) m c f (ats f m 1) v h h1
  have CX : ∀ v, Rd v p (some ⟨b, off, none⟩) m c f (ats f m 2) → Calls Try.prog 80 #[.pointer (some ⟨p, 0, none⟩)] v fun e w' => e = .panicked (gave 4) ∧ But p v w' := fun v h => field_f p (some ⟨b, off, none⟩) m c f (ats f m 2) v h h2
  have hat0 : ats f m 0 = 1 := rfl
  generalize val f m 0 = x0 at *
  generalize val f m 1 = x1 at *
  generalize ats f m 0 = y0 at *
  generalize ats f m 1 = y1 at *
  generalize ats f m 2 = y2 at *
  subst hat0
  go_enter Try.func46, Try.ntmps46
  go_wp2_with fail
  refine (kind_any p b off m c f _ RD hm (by omega)).mono ?_
  rintro e v ⟨rfl, RD1, hb⟩
  rw [hk]
  replace R := R.but hb hJp
  replace T := T.but hb (by simp) hJp
  replace BT := BT.trans hb
  clear RD hb
  have RD := RD1
  clear RD1
  have MB := Box8.new v 1 0 0 0 0 0 0 ⟨#[]⟩ 27
  have TM := Thaw8.new v 1 0 0 0 0 0 0 ⟨#[]⟩ 27
  have hjw : w.heap.size < v.heap.size := R.1
  have hjm : v.heap.size ≠ p := by omega
  have hjp : p < v.heap.size := by omega
  have hjJ : v.heap.size ≠ w.heap.size := by omega
  have hjle : w.heap.size ≤ v.heap.size := by omega
  replace T := T.alloc R.1 (.cells #[.int .i64 1, .int .i64 0, .int .i64 0, .int .i64 0, .int .i64 0, .int .i64 0, .int .i64 0, .string ⟨#[]⟩] 27)
  replace R := R.alloc (.cells #[.int .i64 1, .int .i64 0, .int .i64 0, .int .i64 0, .int .i64 0, .int .i64 0, .int .i64 0, .string ⟨#[]⟩] 27)
  replace RD := RD.below ((Below.refl _ _).alloc (Nat.le_refl _) (.cells #[.int .i64 1, .int .i64 0, .int .i64 0, .int .i64 0, .int .i64 0, .int .i64 0, .int .i64 0, .string ⟨#[]⟩] 27))
  replace BT := BT.alcH (.cells #[.int .i64 1, .int .i64 0, .int .i64 0, .int .i64 0, .int .i64 0, .int .i64 0, .int .i64 0, .string ⟨#[]⟩] 27)

  go_wp2_with fail
  refine (CF0 _ RD).mono ?_
  rintro e v0 ⟨rfl, RD1, hb⟩
  replace T := T.but hb R.1 hJp
  replace TM := TM.but hb MB.1 hjm
  replace R := R.but hb hJp
  replace MB := MB.but hb hjm
  replace BT := BT.trans hb
  clear RD hb CF0
  have RD := RD1
  clear RD1
  obtain ⟨b0, b1, b2, b3, b4, b5, b6, b7, b8⟩ := id MB; obtain ⟨s0, s1, s2, s3, s4, s5, s6, s7⟩ := id TM
  skip
  go_wp2_with fail
  clear b0 b1 b2 b3 b4 b5 b6 b7 b8 s0 s1 s2 s3 s4 s5 s6 s7
  skip
  replace RD := RD.setO hjp 1 (.int .i64 x0)
  replace BT := BT.newH hjle 1 (.int .i64 x0)
  replace R := R.setO hjJ 1 (.int .i64 x0)
  replace T := T.set ⟨v.heap.size, 1, none⟩ (.int .i64 x0)
  replace TM := TM.set ⟨v.heap.size, 1, none⟩ (.int .i64 x0)
  replace MB := MB.set1 x0
  generalize v0.setCell ⟨v.heap.size, 1, none⟩ (.int .i64 x0) = u0 at *
  refine (CF1 _ RD).mono ?_
  rintro e v1 ⟨rfl, RD1, hb⟩
  replace T := T.but hb R.1 hJp
  replace TM := TM.but hb MB.1 hjm
  replace R := R.but hb hJp
  replace MB := MB.but hb hjm
  replace BT := BT.trans hb
  clear RD hb CF1
  have RD := RD1
  clear RD1
  obtain ⟨b0, b1, b2, b3, b4, b5, b6, b7, b8⟩ := id MB; obtain ⟨s0, s1, s2, s3, s4, s5, s6, s7⟩ := id TM
  skip
  go_wp2_with fail
  clear b0 b1 b2 b3 b4 b5 b6 b7 b8 s0 s1 s2 s3 s4 s5 s6 s7
  skip
  replace RD := RD.setO hjp 2 (.int .i64 x1)
  replace BT := BT.newH hjle 2 (.int .i64 x1)
  replace R := R.setO hjJ 2 (.int .i64 x1)
  replace T := T.set ⟨v.heap.size, 2, none⟩ (.int .i64 x1)
  replace TM := TM.set ⟨v.heap.size, 2, none⟩ (.int .i64 x1)
  replace MB := MB.set2 x1
  generalize v1.setCell ⟨v.heap.size, 2, none⟩ (.int .i64 x1) = u1 at *
  refine (CX _ RD).mono ?_
  rintro e v ⟨rfl, hb⟩
  (try go_wp2_with fail)
  exact ⟨rfl, rfl, BT.trans hb⟩
set_option maxRecDepth 100000 in
set_option maxHeartbeats 8000000 in
theorem msg_t2 (p b off m c : Nat) (f : Nat → Int) (w : World) (hr : Rd w p (some ⟨b, off, none⟩) m c f 0) (hm : 1 ≤ m) (hk : f 0 = 2) (h0 : fldB f m (ats f m 0) = true) (h1 : fldB f m (ats f m 1) = true) (h2 : fldB f m (ats f m 2) = true) (h3 : fldB f m (ats f m 3) = true) (h4 : fldB f m (ats f m 4) = true) (hvb3 : 0 ≤ val f m 3 ∧ val f m 3 ≤ 4000000000000) (hvb4 : 0 ≤ val f m 4 ∧ val f m 4 ≤ 4000000000000) :
    Calls Try.prog 46 #[.pointer (some ⟨p, 0, none⟩)] w fun e w' => e = .returned (.agg #[.int .i64 2, .int .i64 (val f m 0), .int .i64 (val f m 1), .int .i64 (val f m 2), .int .i64 (unfJ (val f m 3)), .int .i64 (unfJ (val f m 4)), .int .i64 0, .string ⟨#[]⟩]) ∧ Rd w' p (some ⟨b, off, none⟩) m c f (ats f m 5) ∧ But p w w' := by
  have R := Box8.new w 0 0 0 0 0 0 0 ⟨#[]⟩ 27
  have T := Thaw8.new w 0 0 0 0 0 0 0 ⟨#[]⟩ 27
  have BA := (Below.refl w.heap.size w).alloc (Nat.le_refl _) (.cells #[.int .i64 0, .int .i64 0, .int .i64 0, .int .i64 0, .int .i64 0, .int .i64 0, .int .i64 0, .string ⟨#[]⟩] 27)
  have RD := hr.below BA
  have BT := (But.refl p w).alcH (.cells #[.int .i64 0, .int .i64 0, .int .i64 0, .int .i64 0, .int .i64 0, .int .i64 0, .int .i64 0, .string ⟨#[]⟩] 27)
  have hpw : p < w.heap.size := hr.1
  have hJp : w.heap.size ≠ p := by omega
  clear BA hr
  have CF0 : ∀ v, Rd v p (some ⟨b, off, none⟩) m c f (ats f m 0) → Calls Try.prog 80 #[.pointer (some ⟨p, 0, none⟩)] v fun e w' => e = .returned (.int .i64 (val f m 0)) ∧ Rd w' p (some ⟨b, off, none⟩) m c f (ats f m 1) ∧ But p v w' := fun v h => field_t p (some ⟨b, off, none⟩) m c f (ats f m 0) v h h0
  have CF1 : ∀ v, Rd v p (some ⟨b, off, none⟩) m c f (ats f m 1) → Calls Try.prog 80 #[.pointer (some ⟨p, 0, none⟩)] v fun e w' => e = .returned (.int .i64 (val f m 1)) ∧ Rd w' p (some ⟨b, off, none⟩) m c f (ats f m 2) ∧ But p v w' := fun v h => field_t p (some ⟨b, off, none⟩) m c f (ats f m 1) v h h1
  have CF2 : ∀ v, Rd v p (some ⟨b, off, none⟩) m c f (ats f m 2) → Calls Try.prog 80 #[.pointer (some ⟨p, 0, none⟩)] v fun e w' => e = .returned (.int .i64 (val f m 2)) ∧ Rd w' p (some ⟨b, off, none⟩) m c f (ats f m 3) ∧ But p v w' := fun v h => field_t p (some ⟨b, off, none⟩) m c f (ats f m 2) v h h2
  have CF3 : ∀ v, Rd v p (some ⟨b, off, none⟩) m c f (ats f m 3) → Calls Try.prog 80 #[.pointer (some ⟨p, 0, none⟩)] v fun e w' => e = .returned (.int .i64 (val f m 3)) ∧ Rd w' p (some ⟨b, off, none⟩) m c f (ats f m 4) ∧ But p v w' := fun v h => field_t p (some ⟨b, off, none⟩) m c f (ats f m 3) v h h3
  have CF4 : ∀ v, Rd v p (some ⟨b, off, none⟩) m c f (ats f m 4) → Calls Try.prog 80 #[.pointer (some ⟨p, 0, none⟩)] v fun e w' => e = .returned (.int .i64 (val f m 4)) ∧ Rd w' p (some ⟨b, off, none⟩) m c f (ats f m 5) ∧ But p v w' := fun v h => field_t p (some ⟨b, off, none⟩) m c f (ats f m 4) v h h4
  have hat0 : ats f m 0 = 1 := rfl
  generalize val f m 0 = x0 at *
  generalize val f m 1 = x1 at *
  generalize val f m 2 = x2 at *
  generalize val f m 3 = x3 at *
  generalize val f m 4 = x4 at *
  generalize ats f m 0 = y0 at *
  generalize ats f m 1 = y1 at *
  generalize ats f m 2 = y2 at *
  generalize ats f m 3 = y3 at *
  generalize ats f m 4 = y4 at *
  generalize ats f m 5 = y5 at *
  subst hat0
  go_enter Try.func46, Try.ntmps46
  go_wp2_with fail
  refine (kind_any p b off m c f _ RD hm (by omega)).mono ?_
  rintro e v ⟨rfl, RD1, hb⟩
  rw [hk]
  replace R := R.but hb hJp
  replace T := T.but hb (by simp) hJp
  replace BT := BT.trans hb
  clear RD hb
  have RD := RD1
  clear RD1
  have MB := Box8.new v 2 0 0 0 0 0 0 ⟨#[]⟩ 27
  have TM := Thaw8.new v 2 0 0 0 0 0 0 ⟨#[]⟩ 27
  have hjw : w.heap.size < v.heap.size := R.1
  have hjm : v.heap.size ≠ p := by omega
  have hjp : p < v.heap.size := by omega
  have hjJ : v.heap.size ≠ w.heap.size := by omega
  have hjle : w.heap.size ≤ v.heap.size := by omega
  replace T := T.alloc R.1 (.cells #[.int .i64 2, .int .i64 0, .int .i64 0, .int .i64 0, .int .i64 0, .int .i64 0, .int .i64 0, .string ⟨#[]⟩] 27)
  replace R := R.alloc (.cells #[.int .i64 2, .int .i64 0, .int .i64 0, .int .i64 0, .int .i64 0, .int .i64 0, .int .i64 0, .string ⟨#[]⟩] 27)
  replace RD := RD.below ((Below.refl _ _).alloc (Nat.le_refl _) (.cells #[.int .i64 2, .int .i64 0, .int .i64 0, .int .i64 0, .int .i64 0, .int .i64 0, .int .i64 0, .string ⟨#[]⟩] 27))
  replace BT := BT.alcH (.cells #[.int .i64 2, .int .i64 0, .int .i64 0, .int .i64 0, .int .i64 0, .int .i64 0, .int .i64 0, .string ⟨#[]⟩] 27)

  go_wp2_with fail
  refine (CF0 _ RD).mono ?_
  rintro e v0 ⟨rfl, RD1, hb⟩
  replace T := T.but hb R.1 hJp
  replace TM := TM.but hb MB.1 hjm
  replace R := R.but hb hJp
  replace MB := MB.but hb hjm
  replace BT := BT.trans hb
  clear RD hb CF0
  have RD := RD1
  clear RD1
  obtain ⟨b0, b1, b2, b3, b4, b5, b6, b7, b8⟩ := id MB; obtain ⟨s0, s1, s2, s3, s4, s5, s6, s7⟩ := id TM
  skip
  go_wp2_with fail
  clear b0 b1 b2 b3 b4 b5 b6 b7 b8 s0 s1 s2 s3 s4 s5 s6 s7
  skip
  replace RD := RD.setO hjp 1 (.int .i64 x0)
  replace BT := BT.newH hjle 1 (.int .i64 x0)
  replace R := R.setO hjJ 1 (.int .i64 x0)
  replace T := T.set ⟨v.heap.size, 1, none⟩ (.int .i64 x0)
  replace TM := TM.set ⟨v.heap.size, 1, none⟩ (.int .i64 x0)
  replace MB := MB.set1 x0
  generalize v0.setCell ⟨v.heap.size, 1, none⟩ (.int .i64 x0) = u0 at *
  refine (CF1 _ RD).mono ?_
  rintro e v1 ⟨rfl, RD1, hb⟩
  replace T := T.but hb R.1 hJp
  replace TM := TM.but hb MB.1 hjm
  replace R := R.but hb hJp
  replace MB := MB.but hb hjm
  replace BT := BT.trans hb
  clear RD hb CF1
  have RD := RD1
  clear RD1
  obtain ⟨b0, b1, b2, b3, b4, b5, b6, b7, b8⟩ := id MB; obtain ⟨s0, s1, s2, s3, s4, s5, s6, s7⟩ := id TM
  skip
  go_wp2_with fail
  clear b0 b1 b2 b3 b4 b5 b6 b7 b8 s0 s1 s2 s3 s4 s5 s6 s7
  skip
  replace RD := RD.setO hjp 2 (.int .i64 x1)
  replace BT := BT.newH hjle 2 (.int .i64 x1)
  replace R := R.setO hjJ 2 (.int .i64 x1)
  replace T := T.set ⟨v.heap.size, 2, none⟩ (.int .i64 x1)
  replace TM := TM.set ⟨v.heap.size, 2, none⟩ (.int .i64 x1)
  replace MB := MB.set2 x1
  generalize v1.setCell ⟨v.heap.size, 2, none⟩ (.int .i64 x1) = u1 at *
  refine (CF2 _ RD).mono ?_
  rintro e v2 ⟨rfl, RD1, hb⟩
  replace T := T.but hb R.1 hJp
  replace TM := TM.but hb MB.1 hjm
  replace R := R.but hb hJp
  replace MB := MB.but hb hjm
  replace BT := BT.trans hb
  clear RD hb CF2
  have RD := RD1
  clear RD1
  obtain ⟨b0, b1, b2, b3, b4, b5, b6, b7, b8⟩ := id MB; obtain ⟨s0, s1, s2, s3, s4, s5, s6, s7⟩ := id TM
  skip
  go_wp2_with fail
  clear b0 b1 b2 b3 b4 b5 b6 b7 b8 s0 s1 s2 s3 s4 s5 s6 s7
  skip
  replace RD := RD.setO hjp 3 (.int .i64 x2)
  replace BT := BT.newH hjle 3 (.int .i64 x2)
  replace R := R.setO hjJ 3 (.int .i64 x2)
  replace T := T.set ⟨v.heap.size, 3, none⟩ (.int .i64 x2)
  replace TM := TM.set ⟨v.heap.size, 3, none⟩ (.int .i64 x2)
  replace MB := MB.set3 x2
  generalize v2.setCell ⟨v.heap.size, 3, none⟩ (.int .i64 x2) = u2 at *
  refine (CF3 _ RD).mono ?_
  rintro e v3 ⟨rfl, RD1, hb⟩
  replace T := T.but hb R.1 hJp
  replace TM := TM.but hb MB.1 hjm
  replace R := R.but hb hJp
  replace MB := MB.but hb hjm
  replace BT := BT.trans hb
  clear RD hb CF3
  have RD := RD1
  clear RD1
  have hv3 := hvb3
  go_wp2_with fail
  refine (unfolded_any x3 _ (by omega) (by omega)).mono ?_
  rintro e w' ⟨rfl, rfl⟩
  obtain ⟨b0, b1, b2, b3, b4, b5, b6, b7, b8⟩ := id MB; obtain ⟨s0, s1, s2, s3, s4, s5, s6, s7⟩ := id TM
  skip
  go_wp2_with fail
  clear b0 b1 b2 b3 b4 b5 b6 b7 b8 s0 s1 s2 s3 s4 s5 s6 s7
  skip
  replace RD := RD.setO hjp 4 (.int .i64 (unfJ x3))
  replace BT := BT.newH hjle 4 (.int .i64 (unfJ x3))
  replace R := R.setO hjJ 4 (.int .i64 (unfJ x3))
  replace T := T.set ⟨v.heap.size, 4, none⟩ (.int .i64 (unfJ x3))
  replace TM := TM.set ⟨v.heap.size, 4, none⟩ (.int .i64 (unfJ x3))
  replace MB := MB.set4 (unfJ x3)
  generalize v3.setCell ⟨v.heap.size, 4, none⟩ (.int .i64 (unfJ x3)) = u3 at *
  refine (CF4 _ RD).mono ?_
  rintro e v4 ⟨rfl, RD1, hb⟩
  replace T := T.but hb R.1 hJp
  replace TM := TM.but hb MB.1 hjm
  replace R := R.but hb hJp
  replace MB := MB.but hb hjm
  replace BT := BT.trans hb
  clear RD hb CF4
  have RD := RD1
  clear RD1
  have hv4 := hvb4
  go_wp2_with fail
  refine (unfolded_any x4 _ (by omega) (by omega)).mono ?_
  rintro e w' ⟨rfl, rfl⟩
  obtain ⟨b0, b1, b2, b3, b4, b5, b6, b7, b8⟩ := id MB; obtain ⟨s0, s1, s2, s3, s4, s5, s6, s7⟩ := id TM
  obtain ⟨a0, a1, a2, a3, a4, a5, a6, a7, a8⟩ := id R; obtain ⟨t0, t1, t2, t3, t4, t5, t6, t7⟩ := id T
  go_wp2_with fail
  clear b0 b1 b2 b3 b4 b5 b6 b7 b8 s0 s1 s2 s3 s4 s5 s6 s7
  clear a0 a1 a2 a3 a4 a5 a6 a7 a8 t0 t1 t2 t3 t4 t5 t6 t7
  replace RD := RD.setO hjp 5 (.int .i64 (unfJ x4))
  replace BT := BT.newH hjle 5 (.int .i64 (unfJ x4))
  replace R := R.setO hjJ 5 (.int .i64 (unfJ x4))
  replace T := T.set ⟨v.heap.size, 5, none⟩ (.int .i64 (unfJ x4))
  replace TM := TM.set ⟨v.heap.size, 5, none⟩ (.int .i64 (unfJ x4))
  replace MB := MB.set5 (unfJ x4)
  generalize v4.setCell ⟨v.heap.size, 5, none⟩ (.int .i64 (unfJ x4)) = u4 at *
  have RF := ((((((((R.set0 2).set1 x0).set2 x1).set3 x2).set4 (unfJ x3)).set5 (unfJ x4)).set6 0).set7 ⟨#[]⟩)
  have RDF := ((((((((RD.setO hpw 0 (.int .i64 2)).setO hpw 1 (.int .i64 x0)).setO hpw 2 (.int .i64 x1)).setO hpw 3 (.int .i64 x2)).setO hpw 4 (.int .i64 (unfJ x3))).setO hpw 5 (.int .i64 (unfJ x4))).setO hpw 6 (.int .i64 0)).setO hpw 7 (.string ⟨#[]⟩))
  have BTF := ((((((((BT.newH (Nat.le_refl _) 0 (.int .i64 2)).newH (Nat.le_refl _) 1 (.int .i64 x0)).newH (Nat.le_refl _) 2 (.int .i64 x1)).newH (Nat.le_refl _) 3 (.int .i64 x2)).newH (Nat.le_refl _) 4 (.int .i64 (unfJ x3))).newH (Nat.le_refl _) 5 (.int .i64 (unfJ x4))).newH (Nat.le_refl _) 6 (.int .i64 0)).newH (Nat.le_refl _) 7 (.string ⟨#[]⟩))
  clear R RD BT MB TM T
  generalize ((((((((u4.setCell ⟨w.heap.size, 0, none⟩ (.int .i64 2)).setCell ⟨w.heap.size, 1, none⟩ (.int .i64 x0)).setCell ⟨w.heap.size, 2, none⟩ (.int .i64 x1)).setCell ⟨w.heap.size, 3, none⟩ (.int .i64 x2)).setCell ⟨w.heap.size, 4, none⟩ (.int .i64 (unfJ x3))).setCell ⟨w.heap.size, 5, none⟩ (.int .i64 (unfJ x4))).setCell ⟨w.heap.size, 6, none⟩ (.int .i64 0)).setCell ⟨w.heap.size, 7, none⟩ (.string ⟨#[]⟩)) = vf at *
  obtain ⟨a0, a1, a2, a3, a4, a5, a6, a7, a8⟩ := RF
  exact bodyPost_ret (v := .agg #[.int .i64 2, .int .i64 x0, .int .i64 x1, .int .i64 x2, .int .i64 (unfJ x3), .int .i64 (unfJ x4), .int .i64 0, .string ⟨#[]⟩]) (by simp (maxDischargeDepth := 6) [results, Try.results46, go_sem, a1, a2, a3, a4, a5, a6, a7, a8]) rfl ⟨rfl, RDF, BTF⟩
set_option maxRecDepth 100000 in
set_option maxHeartbeats 8000000 in
theorem msg_f20 (p b off m c : Nat) (f : Nat → Int) (w : World) (hr : Rd w p (some ⟨b, off, none⟩) m c f 0) (hm : 1 ≤ m) (hk : f 0 = 2) (h0 : fldB f m (ats f m 0) = false) :
    Calls Try.prog 46 #[.pointer (some ⟨p, 0, none⟩)] w fun e w' => e = .panicked (gave 4) ∧ But p w w' := by
  have R := Box8.new w 0 0 0 0 0 0 0 ⟨#[]⟩ 27
  have T := Thaw8.new w 0 0 0 0 0 0 0 ⟨#[]⟩ 27
  have BA := (Below.refl w.heap.size w).alloc (Nat.le_refl _) (.cells #[.int .i64 0, .int .i64 0, .int .i64 0, .int .i64 0, .int .i64 0, .int .i64 0, .int .i64 0, .string ⟨#[]⟩] 27)
  have RD := hr.below BA
  have BT := (But.refl p w).alcH (.cells #[.int .i64 0, .int .i64 0, .int .i64 0, .int .i64 0, .int .i64 0, .int .i64 0, .int .i64 0, .string ⟨#[]⟩] 27)
  have hpw : p < w.heap.size := hr.1
  have hJp : w.heap.size ≠ p := by omega
  clear BA hr
  have CX : ∀ v, Rd v p (some ⟨b, off, none⟩) m c f (ats f m 0) → Calls Try.prog 80 #[.pointer (some ⟨p, 0, none⟩)] v fun e w' => e = .panicked (gave 4) ∧ But p v w' := fun v h => field_f p (some ⟨b, off, none⟩) m c f (ats f m 0) v h h0
  have hat0 : ats f m 0 = 1 := rfl
  generalize ats f m 0 = y0 at *
  subst hat0
  go_enter Try.func46, Try.ntmps46
  go_wp2_with fail
  refine (kind_any p b off m c f _ RD hm (by omega)).mono ?_
  rintro e v ⟨rfl, RD1, hb⟩
  rw [hk]
  replace R := R.but hb hJp
  replace T := T.but hb (by simp) hJp
  replace BT := BT.trans hb
  clear RD hb
  have RD := RD1
  clear RD1
  have MB := Box8.new v 2 0 0 0 0 0 0 ⟨#[]⟩ 27
  have TM := Thaw8.new v 2 0 0 0 0 0 0 ⟨#[]⟩ 27
  have hjw : w.heap.size < v.heap.size := R.1
  have hjm : v.heap.size ≠ p := by omega
  have hjp : p < v.heap.size := by omega
  have hjJ : v.heap.size ≠ w.heap.size := by omega
  have hjle : w.heap.size ≤ v.heap.size := by omega
  replace T := T.alloc R.1 (.cells #[.int .i64 2, .int .i64 0, .int .i64 0, .int .i64 0, .int .i64 0, .int .i64 0, .int .i64 0, .string ⟨#[]⟩] 27)
  replace R := R.alloc (.cells #[.int .i64 2, .int .i64 0, .int .i64 0, .int .i64 0, .int .i64 0, .int .i64 0, .int .i64 0, .string ⟨#[]⟩] 27)
  replace RD := RD.below ((Below.refl _ _).alloc (Nat.le_refl _) (.cells #[.int .i64 2, .int .i64 0, .int .i64 0, .int .i64 0, .int .i64 0, .int .i64 0, .int .i64 0, .string ⟨#[]⟩] 27))
  replace BT := BT.alcH (.cells #[.int .i64 2, .int .i64 0, .int .i64 0, .int .i64 0, .int .i64 0, .int .i64 0, .int .i64 0, .string ⟨#[]⟩] 27)

  go_wp2_with fail
  refine (CX _ RD).mono ?_
  rintro e v ⟨rfl, hb⟩
  (try go_wp2_with fail)
  exact ⟨rfl, rfl, BT.trans hb⟩
set_option maxRecDepth 100000 in
set_option maxHeartbeats 8000000 in
theorem msg_f21 (p b off m c : Nat) (f : Nat → Int) (w : World) (hr : Rd w p (some ⟨b, off, none⟩) m c f 0) (hm : 1 ≤ m) (hk : f 0 = 2) (h0 : fldB f m (ats f m 0) = true) (h1 : fldB f m (ats f m 1) = false) :
    Calls Try.prog 46 #[.pointer (some ⟨p, 0, none⟩)] w fun e w' => e = .panicked (gave 4) ∧ But p w w' := by
  have R := Box8.new w 0 0 0 0 0 0 0 ⟨#[]⟩ 27
  have T := Thaw8.new w 0 0 0 0 0 0 0 ⟨#[]⟩ 27
  have BA := (Below.refl w.heap.size w).alloc (Nat.le_refl _) (.cells #[.int .i64 0, .int .i64 0, .int .i64 0, .int .i64 0, .int .i64 0, .int .i64 0, .int .i64 0, .string ⟨#[]⟩] 27)
  have RD := hr.below BA
  have BT := (But.refl p w).alcH (.cells #[.int .i64 0, .int .i64 0, .int .i64 0, .int .i64 0, .int .i64 0, .int .i64 0, .int .i64 0, .string ⟨#[]⟩] 27)
  have hpw : p < w.heap.size := hr.1
  have hJp : w.heap.size ≠ p := by omega
  clear BA hr
  have CF0 : ∀ v, Rd v p (some ⟨b, off, none⟩) m c f (ats f m 0) → Calls Try.prog 80 #[.pointer (some ⟨p, 0, none⟩)] v fun e w' => e = .returned (.int .i64 (val f m 0)) ∧ Rd w' p (some ⟨b, off, none⟩) m c f (ats f m 1) ∧ But p v w' := fun v h => field_t p (some ⟨b, off, none⟩) m c f (ats f m 0) v h h0
  have CX : ∀ v, Rd v p (some ⟨b, off, none⟩) m c f (ats f m 1) → Calls Try.prog 80 #[.pointer (some ⟨p, 0, none⟩)] v fun e w' => e = .panicked (gave 4) ∧ But p v w' := fun v h => field_f p (some ⟨b, off, none⟩) m c f (ats f m 1) v h h1
  have hat0 : ats f m 0 = 1 := rfl
  generalize val f m 0 = x0 at *
  generalize ats f m 0 = y0 at *
  generalize ats f m 1 = y1 at *
  subst hat0
  go_enter Try.func46, Try.ntmps46
  go_wp2_with fail
  refine (kind_any p b off m c f _ RD hm (by omega)).mono ?_
  rintro e v ⟨rfl, RD1, hb⟩
  rw [hk]
  replace R := R.but hb hJp
  replace T := T.but hb (by simp) hJp
  replace BT := BT.trans hb
  clear RD hb
  have RD := RD1
  clear RD1
  have MB := Box8.new v 2 0 0 0 0 0 0 ⟨#[]⟩ 27
  have TM := Thaw8.new v 2 0 0 0 0 0 0 ⟨#[]⟩ 27
  have hjw : w.heap.size < v.heap.size := R.1
  have hjm : v.heap.size ≠ p := by omega
  have hjp : p < v.heap.size := by omega
  have hjJ : v.heap.size ≠ w.heap.size := by omega
  have hjle : w.heap.size ≤ v.heap.size := by omega
  replace T := T.alloc R.1 (.cells #[.int .i64 2, .int .i64 0, .int .i64 0, .int .i64 0, .int .i64 0, .int .i64 0, .int .i64 0, .string ⟨#[]⟩] 27)
  replace R := R.alloc (.cells #[.int .i64 2, .int .i64 0, .int .i64 0, .int .i64 0, .int .i64 0, .int .i64 0, .int .i64 0, .string ⟨#[]⟩] 27)
  replace RD := RD.below ((Below.refl _ _).alloc (Nat.le_refl _) (.cells #[.int .i64 2, .int .i64 0, .int .i64 0, .int .i64 0, .int .i64 0, .int .i64 0, .int .i64 0, .string ⟨#[]⟩] 27))
  replace BT := BT.alcH (.cells #[.int .i64 2, .int .i64 0, .int .i64 0, .int .i64 0, .int .i64 0, .int .i64 0, .int .i64 0, .string ⟨#[]⟩] 27)

  go_wp2_with fail
  refine (CF0 _ RD).mono ?_
  rintro e v0 ⟨rfl, RD1, hb⟩
  replace T := T.but hb R.1 hJp
  replace TM := TM.but hb MB.1 hjm
  replace R := R.but hb hJp
  replace MB := MB.but hb hjm
  replace BT := BT.trans hb
  clear RD hb CF0
  have RD := RD1
  clear RD1
  obtain ⟨b0, b1, b2, b3, b4, b5, b6, b7, b8⟩ := id MB; obtain ⟨s0, s1, s2, s3, s4, s5, s6, s7⟩ := id TM
  skip
  go_wp2_with fail
  clear b0 b1 b2 b3 b4 b5 b6 b7 b8 s0 s1 s2 s3 s4 s5 s6 s7
  skip
  replace RD := RD.setO hjp 1 (.int .i64 x0)
  replace BT := BT.newH hjle 1 (.int .i64 x0)
  replace R := R.setO hjJ 1 (.int .i64 x0)
  replace T := T.set ⟨v.heap.size, 1, none⟩ (.int .i64 x0)
  replace TM := TM.set ⟨v.heap.size, 1, none⟩ (.int .i64 x0)
  replace MB := MB.set1 x0
  generalize v0.setCell ⟨v.heap.size, 1, none⟩ (.int .i64 x0) = u0 at *
  refine (CX _ RD).mono ?_
  rintro e v ⟨rfl, hb⟩
  (try go_wp2_with fail)
  exact ⟨rfl, rfl, BT.trans hb⟩
set_option maxRecDepth 100000 in
set_option maxHeartbeats 8000000 in
theorem msg_f22 (p b off m c : Nat) (f : Nat → Int) (w : World) (hr : Rd w p (some ⟨b, off, none⟩) m c f 0) (hm : 1 ≤ m) (hk : f 0 = 2) (h0 : fldB f m (ats f m 0) = true) (h1 : fldB f m (ats f m 1) = true) (h2 : fldB f m (ats f m 2) = false) :
    Calls Try.prog 46 #[.pointer (some ⟨p, 0, none⟩)] w fun e w' => e = .panicked (gave 4) ∧ But p w w' := by
  have R := Box8.new w 0 0 0 0 0 0 0 ⟨#[]⟩ 27
  have T := Thaw8.new w 0 0 0 0 0 0 0 ⟨#[]⟩ 27
  have BA := (Below.refl w.heap.size w).alloc (Nat.le_refl _) (.cells #[.int .i64 0, .int .i64 0, .int .i64 0, .int .i64 0, .int .i64 0, .int .i64 0, .int .i64 0, .string ⟨#[]⟩] 27)
  have RD := hr.below BA
  have BT := (But.refl p w).alcH (.cells #[.int .i64 0, .int .i64 0, .int .i64 0, .int .i64 0, .int .i64 0, .int .i64 0, .int .i64 0, .string ⟨#[]⟩] 27)
  have hpw : p < w.heap.size := hr.1
  have hJp : w.heap.size ≠ p := by omega
  clear BA hr
  have CF0 : ∀ v, Rd v p (some ⟨b, off, none⟩) m c f (ats f m 0) → Calls Try.prog 80 #[.pointer (some ⟨p, 0, none⟩)] v fun e w' => e = .returned (.int .i64 (val f m 0)) ∧ Rd w' p (some ⟨b, off, none⟩) m c f (ats f m 1) ∧ But p v w' := fun v h => field_t p (some ⟨b, off, none⟩) m c f (ats f m 0) v h h0
  have CF1 : ∀ v, Rd v p (some ⟨b, off, none⟩) m c f (ats f m 1) → Calls Try.prog 80 #[.pointer (some ⟨p, 0, none⟩)] v fun e w' => e = .returned (.int .i64 (val f m 1)) ∧ Rd w' p (some ⟨b, off, none⟩) m c f (ats f m 2) ∧ But p v w' := fun v h => field_t p (some ⟨b, off, none⟩) m c f (ats f m 1) v h h1
  have CX : ∀ v, Rd v p (some ⟨b, off, none⟩) m c f (ats f m 2) → Calls Try.prog 80 #[.pointer (some ⟨p, 0, none⟩)] v fun e w' => e = .panicked (gave 4) ∧ But p v w' := fun v h => field_f p (some ⟨b, off, none⟩) m c f (ats f m 2) v h h2
  have hat0 : ats f m 0 = 1 := rfl
  generalize val f m 0 = x0 at *
  generalize val f m 1 = x1 at *
  generalize ats f m 0 = y0 at *
  generalize ats f m 1 = y1 at *
  generalize ats f m 2 = y2 at *
  subst hat0
  go_enter Try.func46, Try.ntmps46
  go_wp2_with fail
  refine (kind_any p b off m c f _ RD hm (by omega)).mono ?_
  rintro e v ⟨rfl, RD1, hb⟩
  rw [hk]
  replace R := R.but hb hJp
  replace T := T.but hb (by simp) hJp
  replace BT := BT.trans hb
  clear RD hb
  have RD := RD1
  clear RD1
  have MB := Box8.new v 2 0 0 0 0 0 0 ⟨#[]⟩ 27
  have TM := Thaw8.new v 2 0 0 0 0 0 0 ⟨#[]⟩ 27
  have hjw : w.heap.size < v.heap.size := R.1
  have hjm : v.heap.size ≠ p := by omega
  have hjp : p < v.heap.size := by omega
  have hjJ : v.heap.size ≠ w.heap.size := by omega
  have hjle : w.heap.size ≤ v.heap.size := by omega
  replace T := T.alloc R.1 (.cells #[.int .i64 2, .int .i64 0, .int .i64 0, .int .i64 0, .int .i64 0, .int .i64 0, .int .i64 0, .string ⟨#[]⟩] 27)
  replace R := R.alloc (.cells #[.int .i64 2, .int .i64 0, .int .i64 0, .int .i64 0, .int .i64 0, .int .i64 0, .int .i64 0, .string ⟨#[]⟩] 27)
  replace RD := RD.below ((Below.refl _ _).alloc (Nat.le_refl _) (.cells #[.int .i64 2, .int .i64 0, .int .i64 0, .int .i64 0, .int .i64 0, .int .i64 0, .int .i64 0, .string ⟨#[]⟩] 27))
  replace BT := BT.alcH (.cells #[.int .i64 2, .int .i64 0, .int .i64 0, .int .i64 0, .int .i64 0, .int .i64 0, .int .i64 0, .string ⟨#[]⟩] 27)

  go_wp2_with fail
  refine (CF0 _ RD).mono ?_
  rintro e v0 ⟨rfl, RD1, hb⟩
  replace T := T.but hb R.1 hJp
  replace TM := TM.but hb MB.1 hjm
  replace R := R.but hb hJp
  replace MB := MB.but hb hjm
  replace BT := BT.trans hb
  clear RD hb CF0
  have RD := RD1
  clear RD1
  obtain ⟨b0, b1, b2, b3, b4, b5, b6, b7, b8⟩ := id MB; obtain ⟨s0, s1, s2, s3, s4, s5, s6, s7⟩ := id TM
  skip
  go_wp2_with fail
  clear b0 b1 b2 b3 b4 b5 b6 b7 b8 s0 s1 s2 s3 s4 s5 s6 s7
  skip
  replace RD := RD.setO hjp 1 (.int .i64 x0)
  replace BT := BT.newH hjle 1 (.int .i64 x0)
  replace R := R.setO hjJ 1 (.int .i64 x0)
  replace T := T.set ⟨v.heap.size, 1, none⟩ (.int .i64 x0)
  replace TM := TM.set ⟨v.heap.size, 1, none⟩ (.int .i64 x0)
  replace MB := MB.set1 x0
  generalize v0.setCell ⟨v.heap.size, 1, none⟩ (.int .i64 x0) = u0 at *
  refine (CF1 _ RD).mono ?_
  rintro e v1 ⟨rfl, RD1, hb⟩
  replace T := T.but hb R.1 hJp
  replace TM := TM.but hb MB.1 hjm
  replace R := R.but hb hJp
  replace MB := MB.but hb hjm
  replace BT := BT.trans hb
  clear RD hb CF1
  have RD := RD1
  clear RD1
  obtain ⟨b0, b1, b2, b3, b4, b5, b6, b7, b8⟩ := id MB; obtain ⟨s0, s1, s2, s3, s4, s5, s6, s7⟩ := id TM
  skip
  go_wp2_with fail
  clear b0 b1 b2 b3 b4 b5 b6 b7 b8 s0 s1 s2 s3 s4 s5 s6 s7
  skip
  replace RD := RD.setO hjp 2 (.int .i64 x1)
  replace BT := BT.newH hjle 2 (.int .i64 x1)
  replace R := R.setO hjJ 2 (.int .i64 x1)
  replace T := T.set ⟨v.heap.size, 2, none⟩ (.int .i64 x1)
  replace TM := TM.set ⟨v.heap.size, 2, none⟩ (.int .i64 x1)
  replace MB := MB.set2 x1
  generalize v1.setCell ⟨v.heap.size, 2, none⟩ (.int .i64 x1) = u1 at *
  refine (CX _ RD).mono ?_
  rintro e v ⟨rfl, hb⟩
  (try go_wp2_with fail)
  exact ⟨rfl, rfl, BT.trans hb⟩
set_option maxRecDepth 100000 in
set_option maxHeartbeats 8000000 in
theorem msg_f23 (p b off m c : Nat) (f : Nat → Int) (w : World) (hr : Rd w p (some ⟨b, off, none⟩) m c f 0) (hm : 1 ≤ m) (hk : f 0 = 2) (h0 : fldB f m (ats f m 0) = true) (h1 : fldB f m (ats f m 1) = true) (h2 : fldB f m (ats f m 2) = true) (h3 : fldB f m (ats f m 3) = false) :
    Calls Try.prog 46 #[.pointer (some ⟨p, 0, none⟩)] w fun e w' => e = .panicked (gave 4) ∧ But p w w' := by
  have R := Box8.new w 0 0 0 0 0 0 0 ⟨#[]⟩ 27
  have T := Thaw8.new w 0 0 0 0 0 0 0 ⟨#[]⟩ 27
  have BA := (Below.refl w.heap.size w).alloc (Nat.le_refl _) (.cells #[.int .i64 0, .int .i64 0, .int .i64 0, .int .i64 0, .int .i64 0, .int .i64 0, .int .i64 0, .string ⟨#[]⟩] 27)
  have RD := hr.below BA
  have BT := (But.refl p w).alcH (.cells #[.int .i64 0, .int .i64 0, .int .i64 0, .int .i64 0, .int .i64 0, .int .i64 0, .int .i64 0, .string ⟨#[]⟩] 27)
  have hpw : p < w.heap.size := hr.1
  have hJp : w.heap.size ≠ p := by omega
  clear BA hr
  have CF0 : ∀ v, Rd v p (some ⟨b, off, none⟩) m c f (ats f m 0) → Calls Try.prog 80 #[.pointer (some ⟨p, 0, none⟩)] v fun e w' => e = .returned (.int .i64 (val f m 0)) ∧ Rd w' p (some ⟨b, off, none⟩) m c f (ats f m 1) ∧ But p v w' := fun v h => field_t p (some ⟨b, off, none⟩) m c f (ats f m 0) v h h0
  have CF1 : ∀ v, Rd v p (some ⟨b, off, none⟩) m c f (ats f m 1) → Calls Try.prog 80 #[.pointer (some ⟨p, 0, none⟩)] v fun e w' => e = .returned (.int .i64 (val f m 1)) ∧ Rd w' p (some ⟨b, off, none⟩) m c f (ats f m 2) ∧ But p v w' := fun v h => field_t p (some ⟨b, off, none⟩) m c f (ats f m 1) v h h1
  have CF2 : ∀ v, Rd v p (some ⟨b, off, none⟩) m c f (ats f m 2) → Calls Try.prog 80 #[.pointer (some ⟨p, 0, none⟩)] v fun e w' => e = .returned (.int .i64 (val f m 2)) ∧ Rd w' p (some ⟨b, off, none⟩) m c f (ats f m 3) ∧ But p v w' := fun v h => field_t p (some ⟨b, off, none⟩) m c f (ats f m 2) v h h2
  have CX : ∀ v, Rd v p (some ⟨b, off, none⟩) m c f (ats f m 3) → Calls Try.prog 80 #[.pointer (some ⟨p, 0, none⟩)] v fun e w' => e = .panicked (gave 4) ∧ But p v w' := fun v h => field_f p (some ⟨b, off, none⟩) m c f (ats f m 3) v h h3
  have hat0 : ats f m 0 = 1 := rfl
  generalize val f m 0 = x0 at *
  generalize val f m 1 = x1 at *
  generalize val f m 2 = x2 at *
  generalize ats f m 0 = y0 at *
  generalize ats f m 1 = y1 at *
  generalize ats f m 2 = y2 at *
  generalize ats f m 3 = y3 at *
  subst hat0
  go_enter Try.func46, Try.ntmps46
  go_wp2_with fail
  refine (kind_any p b off m c f _ RD hm (by omega)).mono ?_
  rintro e v ⟨rfl, RD1, hb⟩
  rw [hk]
  replace R := R.but hb hJp
  replace T := T.but hb (by simp) hJp
  replace BT := BT.trans hb
  clear RD hb
  have RD := RD1
  clear RD1
  have MB := Box8.new v 2 0 0 0 0 0 0 ⟨#[]⟩ 27
  have TM := Thaw8.new v 2 0 0 0 0 0 0 ⟨#[]⟩ 27
  have hjw : w.heap.size < v.heap.size := R.1
  have hjm : v.heap.size ≠ p := by omega
  have hjp : p < v.heap.size := by omega
  have hjJ : v.heap.size ≠ w.heap.size := by omega
  have hjle : w.heap.size ≤ v.heap.size := by omega
  replace T := T.alloc R.1 (.cells #[.int .i64 2, .int .i64 0, .int .i64 0, .int .i64 0, .int .i64 0, .int .i64 0, .int .i64 0, .string ⟨#[]⟩] 27)
  replace R := R.alloc (.cells #[.int .i64 2, .int .i64 0, .int .i64 0, .int .i64 0, .int .i64 0, .int .i64 0, .int .i64 0, .string ⟨#[]⟩] 27)
  replace RD := RD.below ((Below.refl _ _).alloc (Nat.le_refl _) (.cells #[.int .i64 2, .int .i64 0, .int .i64 0, .int .i64 0, .int .i64 0, .int .i64 0, .int .i64 0, .string ⟨#[]⟩] 27))
  replace BT := BT.alcH (.cells #[.int .i64 2, .int .i64 0, .int .i64 0, .int .i64 0, .int .i64 0, .int .i64 0, .int .i64 0, .string ⟨#[]⟩] 27)

  go_wp2_with fail
  refine (CF0 _ RD).mono ?_
  rintro e v0 ⟨rfl, RD1, hb⟩
  replace T := T.but hb R.1 hJp
  replace TM := TM.but hb MB.1 hjm
  replace R := R.but hb hJp
  replace MB := MB.but hb hjm
  replace BT := BT.trans hb
  clear RD hb CF0
  have RD := RD1
  clear RD1
  obtain ⟨b0, b1, b2, b3, b4, b5, b6, b7, b8⟩ := id MB; obtain ⟨s0, s1, s2, s3, s4, s5, s6, s7⟩ := id TM
  skip
  go_wp2_with fail
  clear b0 b1 b2 b3 b4 b5 b6 b7 b8 s0 s1 s2 s3 s4 s5 s6 s7
  skip
  replace RD := RD.setO hjp 1 (.int .i64 x0)
  replace BT := BT.newH hjle 1 (.int .i64 x0)
  replace R := R.setO hjJ 1 (.int .i64 x0)
  replace T := T.set ⟨v.heap.size, 1, none⟩ (.int .i64 x0)
  replace TM := TM.set ⟨v.heap.size, 1, none⟩ (.int .i64 x0)
  replace MB := MB.set1 x0
  generalize v0.setCell ⟨v.heap.size, 1, none⟩ (.int .i64 x0) = u0 at *
  refine (CF1 _ RD).mono ?_
  rintro e v1 ⟨rfl, RD1, hb⟩
  replace T := T.but hb R.1 hJp
  replace TM := TM.but hb MB.1 hjm
  replace R := R.but hb hJp
  replace MB := MB.but hb hjm
  replace BT := BT.trans hb
  clear RD hb CF1
  have RD := RD1
  clear RD1
  obtain ⟨b0, b1, b2, b3, b4, b5, b6, b7, b8⟩ := id MB; obtain ⟨s0, s1, s2, s3, s4, s5, s6, s7⟩ := id TM
  skip
  go_wp2_with fail
  clear b0 b1 b2 b3 b4 b5 b6 b7 b8 s0 s1 s2 s3 s4 s5 s6 s7
  skip
  replace RD := RD.setO hjp 2 (.int .i64 x1)
  replace BT := BT.newH hjle 2 (.int .i64 x1)
  replace R := R.setO hjJ 2 (.int .i64 x1)
  replace T := T.set ⟨v.heap.size, 2, none⟩ (.int .i64 x1)
  replace TM := TM.set ⟨v.heap.size, 2, none⟩ (.int .i64 x1)
  replace MB := MB.set2 x1
  generalize v1.setCell ⟨v.heap.size, 2, none⟩ (.int .i64 x1) = u1 at *
  refine (CF2 _ RD).mono ?_
  rintro e v2 ⟨rfl, RD1, hb⟩
  replace T := T.but hb R.1 hJp
  replace TM := TM.but hb MB.1 hjm
  replace R := R.but hb hJp
  replace MB := MB.but hb hjm
  replace BT := BT.trans hb
  clear RD hb CF2
  have RD := RD1
  clear RD1
  obtain ⟨b0, b1, b2, b3, b4, b5, b6, b7, b8⟩ := id MB; obtain ⟨s0, s1, s2, s3, s4, s5, s6, s7⟩ := id TM
  skip
  go_wp2_with fail
  clear b0 b1 b2 b3 b4 b5 b6 b7 b8 s0 s1 s2 s3 s4 s5 s6 s7
  skip
  replace RD := RD.setO hjp 3 (.int .i64 x2)
  replace BT := BT.newH hjle 3 (.int .i64 x2)
  replace R := R.setO hjJ 3 (.int .i64 x2)
  replace T := T.set ⟨v.heap.size, 3, none⟩ (.int .i64 x2)
  replace TM := TM.set ⟨v.heap.size, 3, none⟩ (.int .i64 x2)
  replace MB := MB.set3 x2
  generalize v2.setCell ⟨v.heap.size, 3, none⟩ (.int .i64 x2) = u2 at *
  refine (CX _ RD).mono ?_
  rintro e v ⟨rfl, hb⟩
  (try go_wp2_with fail)
  exact ⟨rfl, rfl, BT.trans hb⟩
set_option maxRecDepth 100000 in
set_option maxHeartbeats 8000000 in
theorem msg_f24 (p b off m c : Nat) (f : Nat → Int) (w : World) (hr : Rd w p (some ⟨b, off, none⟩) m c f 0) (hm : 1 ≤ m) (hk : f 0 = 2) (h0 : fldB f m (ats f m 0) = true) (h1 : fldB f m (ats f m 1) = true) (h2 : fldB f m (ats f m 2) = true) (h3 : fldB f m (ats f m 3) = true) (h4 : fldB f m (ats f m 4) = false) (hvb3 : 0 ≤ val f m 3 ∧ val f m 3 ≤ 4000000000000) :
    Calls Try.prog 46 #[.pointer (some ⟨p, 0, none⟩)] w fun e w' => e = .panicked (gave 4) ∧ But p w w' := by
  have R := Box8.new w 0 0 0 0 0 0 0 ⟨#[]⟩ 27
  have T := Thaw8.new w 0 0 0 0 0 0 0 ⟨#[]⟩ 27
  have BA := (Below.refl w.heap.size w).alloc (Nat.le_refl _) (.cells #[.int .i64 0, .int .i64 0, .int .i64 0, .int .i64 0, .int .i64 0, .int .i64 0, .int .i64 0, .string ⟨#[]⟩] 27)
  have RD := hr.below BA
  have BT := (But.refl p w).alcH (.cells #[.int .i64 0, .int .i64 0, .int .i64 0, .int .i64 0, .int .i64 0, .int .i64 0, .int .i64 0, .string ⟨#[]⟩] 27)
  have hpw : p < w.heap.size := hr.1
  have hJp : w.heap.size ≠ p := by omega
  clear BA hr
  have CF0 : ∀ v, Rd v p (some ⟨b, off, none⟩) m c f (ats f m 0) → Calls Try.prog 80 #[.pointer (some ⟨p, 0, none⟩)] v fun e w' => e = .returned (.int .i64 (val f m 0)) ∧ Rd w' p (some ⟨b, off, none⟩) m c f (ats f m 1) ∧ But p v w' := fun v h => field_t p (some ⟨b, off, none⟩) m c f (ats f m 0) v h h0
  have CF1 : ∀ v, Rd v p (some ⟨b, off, none⟩) m c f (ats f m 1) → Calls Try.prog 80 #[.pointer (some ⟨p, 0, none⟩)] v fun e w' => e = .returned (.int .i64 (val f m 1)) ∧ Rd w' p (some ⟨b, off, none⟩) m c f (ats f m 2) ∧ But p v w' := fun v h => field_t p (some ⟨b, off, none⟩) m c f (ats f m 1) v h h1
  have CF2 : ∀ v, Rd v p (some ⟨b, off, none⟩) m c f (ats f m 2) → Calls Try.prog 80 #[.pointer (some ⟨p, 0, none⟩)] v fun e w' => e = .returned (.int .i64 (val f m 2)) ∧ Rd w' p (some ⟨b, off, none⟩) m c f (ats f m 3) ∧ But p v w' := fun v h => field_t p (some ⟨b, off, none⟩) m c f (ats f m 2) v h h2
  have CF3 : ∀ v, Rd v p (some ⟨b, off, none⟩) m c f (ats f m 3) → Calls Try.prog 80 #[.pointer (some ⟨p, 0, none⟩)] v fun e w' => e = .returned (.int .i64 (val f m 3)) ∧ Rd w' p (some ⟨b, off, none⟩) m c f (ats f m 4) ∧ But p v w' := fun v h => field_t p (some ⟨b, off, none⟩) m c f (ats f m 3) v h h3
  have CX : ∀ v, Rd v p (some ⟨b, off, none⟩) m c f (ats f m 4) → Calls Try.prog 80 #[.pointer (some ⟨p, 0, none⟩)] v fun e w' => e = .panicked (gave 4) ∧ But p v w' := fun v h => field_f p (some ⟨b, off, none⟩) m c f (ats f m 4) v h h4
  have hat0 : ats f m 0 = 1 := rfl
  generalize val f m 0 = x0 at *
  generalize val f m 1 = x1 at *
  generalize val f m 2 = x2 at *
  generalize val f m 3 = x3 at *
  generalize ats f m 0 = y0 at *
  generalize ats f m 1 = y1 at *
  generalize ats f m 2 = y2 at *
  generalize ats f m 3 = y3 at *
  generalize ats f m 4 = y4 at *
  subst hat0
  go_enter Try.func46, Try.ntmps46
  go_wp2_with fail
  refine (kind_any p b off m c f _ RD hm (by omega)).mono ?_
  rintro e v ⟨rfl, RD1, hb⟩
  rw [hk]
  replace R := R.but hb hJp
  replace T := T.but hb (by simp) hJp
  replace BT := BT.trans hb
  clear RD hb
  have RD := RD1
  clear RD1
  have MB := Box8.new v 2 0 0 0 0 0 0 ⟨#[]⟩ 27
  have TM := Thaw8.new v 2 0 0 0 0 0 0 ⟨#[]⟩ 27
  have hjw : w.heap.size < v.heap.size := R.1
  have hjm : v.heap.size ≠ p := by omega
  have hjp : p < v.heap.size := by omega
  have hjJ : v.heap.size ≠ w.heap.size := by omega
  have hjle : w.heap.size ≤ v.heap.size := by omega
  replace T := T.alloc R.1 (.cells #[.int .i64 2, .int .i64 0, .int .i64 0, .int .i64 0, .int .i64 0, .int .i64 0, .int .i64 0, .string ⟨#[]⟩] 27)
  replace R := R.alloc (.cells #[.int .i64 2, .int .i64 0, .int .i64 0, .int .i64 0, .int .i64 0, .int .i64 0, .int .i64 0, .string ⟨#[]⟩] 27)
  replace RD := RD.below ((Below.refl _ _).alloc (Nat.le_refl _) (.cells #[.int .i64 2, .int .i64 0, .int .i64 0, .int .i64 0, .int .i64 0, .int .i64 0, .int .i64 0, .string ⟨#[]⟩] 27))
  replace BT := BT.alcH (.cells #[.int .i64 2, .int .i64 0, .int .i64 0, .int .i64 0, .int .i64 0, .int .i64 0, .int .i64 0, .string ⟨#[]⟩] 27)

  go_wp2_with fail
  refine (CF0 _ RD).mono ?_
  rintro e v0 ⟨rfl, RD1, hb⟩
  replace T := T.but hb R.1 hJp
  replace TM := TM.but hb MB.1 hjm
  replace R := R.but hb hJp
  replace MB := MB.but hb hjm
  replace BT := BT.trans hb
  clear RD hb CF0
  have RD := RD1
  clear RD1
  obtain ⟨b0, b1, b2, b3, b4, b5, b6, b7, b8⟩ := id MB; obtain ⟨s0, s1, s2, s3, s4, s5, s6, s7⟩ := id TM
  skip
  go_wp2_with fail
  clear b0 b1 b2 b3 b4 b5 b6 b7 b8 s0 s1 s2 s3 s4 s5 s6 s7
  skip
  replace RD := RD.setO hjp 1 (.int .i64 x0)
  replace BT := BT.newH hjle 1 (.int .i64 x0)
  replace R := R.setO hjJ 1 (.int .i64 x0)
  replace T := T.set ⟨v.heap.size, 1, none⟩ (.int .i64 x0)
  replace TM := TM.set ⟨v.heap.size, 1, none⟩ (.int .i64 x0)
  replace MB := MB.set1 x0
  generalize v0.setCell ⟨v.heap.size, 1, none⟩ (.int .i64 x0) = u0 at *
  refine (CF1 _ RD).mono ?_
  rintro e v1 ⟨rfl, RD1, hb⟩
  replace T := T.but hb R.1 hJp
  replace TM := TM.but hb MB.1 hjm
  replace R := R.but hb hJp
  replace MB := MB.but hb hjm
  replace BT := BT.trans hb
  clear RD hb CF1
  have RD := RD1
  clear RD1
  obtain ⟨b0, b1, b2, b3, b4, b5, b6, b7, b8⟩ := id MB; obtain ⟨s0, s1, s2, s3, s4, s5, s6, s7⟩ := id TM
  skip
  go_wp2_with fail
  clear b0 b1 b2 b3 b4 b5 b6 b7 b8 s0 s1 s2 s3 s4 s5 s6 s7
  skip
  replace RD := RD.setO hjp 2 (.int .i64 x1)
  replace BT := BT.newH hjle 2 (.int .i64 x1)
  replace R := R.setO hjJ 2 (.int .i64 x1)
  replace T := T.set ⟨v.heap.size, 2, none⟩ (.int .i64 x1)
  replace TM := TM.set ⟨v.heap.size, 2, none⟩ (.int .i64 x1)
  replace MB := MB.set2 x1
  generalize v1.setCell ⟨v.heap.size, 2, none⟩ (.int .i64 x1) = u1 at *
  refine (CF2 _ RD).mono ?_
  rintro e v2 ⟨rfl, RD1, hb⟩
  replace T := T.but hb R.1 hJp
  replace TM := TM.but hb MB.1 hjm
  replace R := R.but hb hJp
  replace MB := MB.but hb hjm
  replace BT := BT.trans hb
  clear RD hb CF2
  have RD := RD1
  clear RD1
  obtain ⟨b0, b1, b2, b3, b4, b5, b6, b7, b8⟩ := id MB; obtain ⟨s0, s1, s2, s3, s4, s5, s6, s7⟩ := id TM
  skip
  go_wp2_with fail
  clear b0 b1 b2 b3 b4 b5 b6 b7 b8 s0 s1 s2 s3 s4 s5 s6 s7
  skip
  replace RD := RD.setO hjp 3 (.int .i64 x2)
  replace BT := BT.newH hjle 3 (.int .i64 x2)
  replace R := R.setO hjJ 3 (.int .i64 x2)
  replace T := T.set ⟨v.heap.size, 3, none⟩ (.int .i64 x2)
  replace TM := TM.set ⟨v.heap.size, 3, none⟩ (.int .i64 x2)
  replace MB := MB.set3 x2
  generalize v2.setCell ⟨v.heap.size, 3, none⟩ (.int .i64 x2) = u2 at *
  refine (CF3 _ RD).mono ?_
  rintro e v3 ⟨rfl, RD1, hb⟩
  replace T := T.but hb R.1 hJp
  replace TM := TM.but hb MB.1 hjm
  replace R := R.but hb hJp
  replace MB := MB.but hb hjm
  replace BT := BT.trans hb
  clear RD hb CF3
  have RD := RD1
  clear RD1
  have hv3 := hvb3
  go_wp2_with fail
  refine (unfolded_any x3 _ (by omega) (by omega)).mono ?_
  rintro e w' ⟨rfl, rfl⟩
  obtain ⟨b0, b1, b2, b3, b4, b5, b6, b7, b8⟩ := id MB; obtain ⟨s0, s1, s2, s3, s4, s5, s6, s7⟩ := id TM
  skip
  go_wp2_with fail
  clear b0 b1 b2 b3 b4 b5 b6 b7 b8 s0 s1 s2 s3 s4 s5 s6 s7
  skip
  replace RD := RD.setO hjp 4 (.int .i64 (unfJ x3))
  replace BT := BT.newH hjle 4 (.int .i64 (unfJ x3))
  replace R := R.setO hjJ 4 (.int .i64 (unfJ x3))
  replace T := T.set ⟨v.heap.size, 4, none⟩ (.int .i64 (unfJ x3))
  replace TM := TM.set ⟨v.heap.size, 4, none⟩ (.int .i64 (unfJ x3))
  replace MB := MB.set4 (unfJ x3)
  generalize v3.setCell ⟨v.heap.size, 4, none⟩ (.int .i64 (unfJ x3)) = u3 at *
  refine (CX _ RD).mono ?_
  rintro e v ⟨rfl, hb⟩
  (try go_wp2_with fail)
  exact ⟨rfl, rfl, BT.trans hb⟩
set_option maxRecDepth 100000 in
set_option maxHeartbeats 8000000 in
theorem msg_t3 (p b off m c : Nat) (f : Nat → Int) (w : World) (hr : Rd w p (some ⟨b, off, none⟩) m c f 0) (hm : 1 ≤ m) (hk : f 0 = 3) (h0 : fldB f m (ats f m 0) = true) (h1 : fldB f m (ats f m 1) = true) (h2 : fldB f m (ats f m 2) = true) (X NN : Nat) (hX : ats f m 3 = X) (hN : val f m 2 = NN) (hle : X + NN ≤ m) (sb : ByteArray) (hsb : strF f X NN = sb) :
    Calls Try.prog 46 #[.pointer (some ⟨p, 0, none⟩)] w fun e w' => e = .returned (.agg #[.int .i64 3, .int .i64 (val f m 0), .int .i64 0, .int .i64 0, .int .i64 0, .int .i64 0, .int .i64 (val f m 1), .string sb]) ∧ Rd w' p (some ⟨b, off, none⟩) m c f ((X : Int) + NN) ∧ But p w w' := by
  have R := Box8.new w 0 0 0 0 0 0 0 ⟨#[]⟩ 27
  have T := Thaw8.new w 0 0 0 0 0 0 0 ⟨#[]⟩ 27
  have BA := (Below.refl w.heap.size w).alloc (Nat.le_refl _) (.cells #[.int .i64 0, .int .i64 0, .int .i64 0, .int .i64 0, .int .i64 0, .int .i64 0, .int .i64 0, .string ⟨#[]⟩] 27)
  have RD := hr.below BA
  have BT := (But.refl p w).alcH (.cells #[.int .i64 0, .int .i64 0, .int .i64 0, .int .i64 0, .int .i64 0, .int .i64 0, .int .i64 0, .string ⟨#[]⟩] 27)
  have hpw : p < w.heap.size := hr.1
  have hJp : w.heap.size ≠ p := by omega
  clear BA hr
  have CF0 : ∀ v, Rd v p (some ⟨b, off, none⟩) m c f (ats f m 0) → Calls Try.prog 80 #[.pointer (some ⟨p, 0, none⟩)] v fun e w' => e = .returned (.int .i64 (val f m 0)) ∧ Rd w' p (some ⟨b, off, none⟩) m c f (ats f m 1) ∧ But p v w' := fun v h => field_t p (some ⟨b, off, none⟩) m c f (ats f m 0) v h h0
  have CF1 : ∀ v, Rd v p (some ⟨b, off, none⟩) m c f (ats f m 1) → Calls Try.prog 80 #[.pointer (some ⟨p, 0, none⟩)] v fun e w' => e = .returned (.int .i64 (val f m 1)) ∧ Rd w' p (some ⟨b, off, none⟩) m c f (ats f m 2) ∧ But p v w' := fun v h => field_t p (some ⟨b, off, none⟩) m c f (ats f m 1) v h h1
  have CF2 : ∀ v, Rd v p (some ⟨b, off, none⟩) m c f (ats f m 2) → Calls Try.prog 80 #[.pointer (some ⟨p, 0, none⟩)] v fun e w' => e = .returned (.int .i64 (val f m 2)) ∧ Rd w' p (some ⟨b, off, none⟩) m c f (ats f m 3) ∧ But p v w' := fun v h => field_t p (some ⟨b, off, none⟩) m c f (ats f m 2) v h h2
  have hat0 : ats f m 0 = 1 := rfl
  generalize val f m 0 = x0 at *
  generalize val f m 1 = x1 at *
  generalize val f m 2 = x2 at *
  generalize ats f m 0 = y0 at *
  generalize ats f m 1 = y1 at *
  generalize ats f m 2 = y2 at *
  generalize ats f m 3 = y3 at *
  subst hat0
  go_enter Try.func46, Try.ntmps46
  go_wp2_with fail
  refine (kind_any p b off m c f _ RD hm (by omega)).mono ?_
  rintro e v ⟨rfl, RD1, hb⟩
  rw [hk]
  replace R := R.but hb hJp
  replace T := T.but hb (by simp) hJp
  replace BT := BT.trans hb
  clear RD hb
  have RD := RD1
  clear RD1
  have MB := Box8.new v 3 0 0 0 0 0 0 ⟨#[]⟩ 27
  have TM := Thaw8.new v 3 0 0 0 0 0 0 ⟨#[]⟩ 27
  have hjw : w.heap.size < v.heap.size := R.1
  have hjm : v.heap.size ≠ p := by omega
  have hjp : p < v.heap.size := by omega
  have hjJ : v.heap.size ≠ w.heap.size := by omega
  have hjle : w.heap.size ≤ v.heap.size := by omega
  replace T := T.alloc R.1 (.cells #[.int .i64 3, .int .i64 0, .int .i64 0, .int .i64 0, .int .i64 0, .int .i64 0, .int .i64 0, .string ⟨#[]⟩] 27)
  replace R := R.alloc (.cells #[.int .i64 3, .int .i64 0, .int .i64 0, .int .i64 0, .int .i64 0, .int .i64 0, .int .i64 0, .string ⟨#[]⟩] 27)
  replace RD := RD.below ((Below.refl _ _).alloc (Nat.le_refl _) (.cells #[.int .i64 3, .int .i64 0, .int .i64 0, .int .i64 0, .int .i64 0, .int .i64 0, .int .i64 0, .string ⟨#[]⟩] 27))
  replace BT := BT.alcH (.cells #[.int .i64 3, .int .i64 0, .int .i64 0, .int .i64 0, .int .i64 0, .int .i64 0, .int .i64 0, .string ⟨#[]⟩] 27)

  go_wp2_with fail
  refine (CF0 _ RD).mono ?_
  rintro e v0 ⟨rfl, RD1, hb⟩
  replace T := T.but hb R.1 hJp
  replace TM := TM.but hb MB.1 hjm
  replace R := R.but hb hJp
  replace MB := MB.but hb hjm
  replace BT := BT.trans hb
  clear RD hb CF0
  have RD := RD1
  clear RD1
  obtain ⟨b0, b1, b2, b3, b4, b5, b6, b7, b8⟩ := id MB; obtain ⟨s0, s1, s2, s3, s4, s5, s6, s7⟩ := id TM
  skip
  go_wp2_with fail
  clear b0 b1 b2 b3 b4 b5 b6 b7 b8 s0 s1 s2 s3 s4 s5 s6 s7
  skip
  replace RD := RD.setO hjp 1 (.int .i64 x0)
  replace BT := BT.newH hjle 1 (.int .i64 x0)
  replace R := R.setO hjJ 1 (.int .i64 x0)
  replace T := T.set ⟨v.heap.size, 1, none⟩ (.int .i64 x0)
  replace TM := TM.set ⟨v.heap.size, 1, none⟩ (.int .i64 x0)
  replace MB := MB.set1 x0
  generalize v0.setCell ⟨v.heap.size, 1, none⟩ (.int .i64 x0) = u0 at *
  refine (CF1 _ RD).mono ?_
  rintro e v1 ⟨rfl, RD1, hb⟩
  replace T := T.but hb R.1 hJp
  replace TM := TM.but hb MB.1 hjm
  replace R := R.but hb hJp
  replace MB := MB.but hb hjm
  replace BT := BT.trans hb
  clear RD hb CF1
  have RD := RD1
  clear RD1
  obtain ⟨b0, b1, b2, b3, b4, b5, b6, b7, b8⟩ := id MB; obtain ⟨s0, s1, s2, s3, s4, s5, s6, s7⟩ := id TM
  skip
  go_wp2_with fail
  clear b0 b1 b2 b3 b4 b5 b6 b7 b8 s0 s1 s2 s3 s4 s5 s6 s7
  skip
  replace RD := RD.setO hjp 6 (.int .i64 x1)
  replace BT := BT.newH hjle 6 (.int .i64 x1)
  replace R := R.setO hjJ 6 (.int .i64 x1)
  replace T := T.set ⟨v.heap.size, 6, none⟩ (.int .i64 x1)
  replace TM := TM.set ⟨v.heap.size, 6, none⟩ (.int .i64 x1)
  replace MB := MB.set6 x1
  generalize v1.setCell ⟨v.heap.size, 6, none⟩ (.int .i64 x1) = u1 at *
  refine (CF2 _ RD).mono ?_
  rintro e v2 ⟨rfl, RD1, hb⟩
  replace T := T.but hb R.1 hJp
  replace TM := TM.but hb MB.1 hjm
  replace R := R.but hb hJp
  replace MB := MB.but hb hjm
  replace BT := BT.trans hb
  clear RD hb CF2
  have RD := RD1
  clear RD1
  subst hX hN
  go_wp2_with fail
  refine (take_any p b off m c X NN 4 f _ RD hle).mono ?_
  rintro e v3 ⟨oo, rfl, ho, RD1, hb⟩
  replace T := T.but hb R.1 hJp
  replace TM := TM.but hb MB.1 hjm
  replace R := R.but hb hJp
  replace MB := MB.but hb hjm
  replace BT := BT.trans hb
  clear RD hb
  have RD := RD1
  clear RD1
  have HCV : Hid ((convert 22 9 (.slice (some ⟨b, oo, none⟩) NN (c - X))).run Try.prog v3 = .ok (.string (strF f X NN)) v3) :=
    run_convert_bytes_arg v3 22 5 Try.underlying22 Try.underlying5 b oo NN (c - X) ((List.range NN).map fun i => f (X + i)) (by simp) (fun i hi => by
      have ho' := ho (by omega)
      subst ho'
      rcases RD.2.2.2.2.2.2.2.2.1 with q | ⟨b', off', q1, q2⟩
      · omega
      · simp at q1
        obtain ⟨rfl, rfl⟩ := q1
        have q := q2.2 (X + i) (by omega)
        rw [← Nat.add_assoc] at q
        rw [q]; simp [hi]) 9 Try.underlying9
  have hcv := HCV.out
  clear HCV ho
  rw [hsb] at hcv
  obtain ⟨b0, b1, b2, b3, b4, b5, b6, b7, b8⟩ := id MB; obtain ⟨s0, s1, s2, s3, s4, s5, s6, s7⟩ := id TM
  obtain ⟨a0, a1, a2, a3, a4, a5, a6, a7, a8⟩ := id R; obtain ⟨t0, t1, t2, t3, t4, t5, t6, t7⟩ := id T
  go_wp2_with fail
  clear b0 b1 b2 b3 b4 b5 b6 b7 b8 s0 s1 s2 s3 s4 s5 s6 s7
  clear a0 a1 a2 a3 a4 a5 a6 a7 a8 t0 t1 t2 t3 t4 t5 t6 t7
  replace RD := RD.setO hjp 7 (.string sb)
  replace BT := BT.newH hjle 7 (.string sb)
  replace R := R.setO hjJ 7 (.string sb)
  replace T := T.set ⟨v.heap.size, 7, none⟩ (.string sb)
  replace TM := TM.set ⟨v.heap.size, 7, none⟩ (.string sb)
  replace MB := MB.set7 sb
  generalize v3.setCell ⟨v.heap.size, 7, none⟩ (.string sb) = u3 at *
  have RF := ((((((((R.set0 3).set1 x0).set2 0).set3 0).set4 0).set5 0).set6 x1).set7 sb)
  have RDF := ((((((((RD.setO hpw 0 (.int .i64 3)).setO hpw 1 (.int .i64 x0)).setO hpw 2 (.int .i64 0)).setO hpw 3 (.int .i64 0)).setO hpw 4 (.int .i64 0)).setO hpw 5 (.int .i64 0)).setO hpw 6 (.int .i64 x1)).setO hpw 7 (.string sb))
  have BTF := ((((((((BT.newH (Nat.le_refl _) 0 (.int .i64 3)).newH (Nat.le_refl _) 1 (.int .i64 x0)).newH (Nat.le_refl _) 2 (.int .i64 0)).newH (Nat.le_refl _) 3 (.int .i64 0)).newH (Nat.le_refl _) 4 (.int .i64 0)).newH (Nat.le_refl _) 5 (.int .i64 0)).newH (Nat.le_refl _) 6 (.int .i64 x1)).newH (Nat.le_refl _) 7 (.string sb))
  clear R RD BT MB TM T
  generalize ((((((((u3.setCell ⟨w.heap.size, 0, none⟩ (.int .i64 3)).setCell ⟨w.heap.size, 1, none⟩ (.int .i64 x0)).setCell ⟨w.heap.size, 2, none⟩ (.int .i64 0)).setCell ⟨w.heap.size, 3, none⟩ (.int .i64 0)).setCell ⟨w.heap.size, 4, none⟩ (.int .i64 0)).setCell ⟨w.heap.size, 5, none⟩ (.int .i64 0)).setCell ⟨w.heap.size, 6, none⟩ (.int .i64 x1)).setCell ⟨w.heap.size, 7, none⟩ (.string sb)) = vf at *
  obtain ⟨a0, a1, a2, a3, a4, a5, a6, a7, a8⟩ := RF
  exact bodyPost_ret (v := .agg #[.int .i64 3, .int .i64 x0, .int .i64 0, .int .i64 0, .int .i64 0, .int .i64 0, .int .i64 x1, .string sb]) (by simp (maxDischargeDepth := 6) [results, Try.results46, go_sem, a1, a2, a3, a4, a5, a6, a7, a8]) rfl ⟨rfl, RDF, BTF⟩
set_option maxRecDepth 100000 in
set_option maxHeartbeats 8000000 in
theorem msg_few (p b off m c : Nat) (f : Nat → Int) (w : World) (hr : Rd w p (some ⟨b, off, none⟩) m c f 0) (hm : 1 ≤ m) (hk : f 0 = 3) (h0 : fldB f m (ats f m 0) = true) (h1 : fldB f m (ats f m 1) = true) (h2 : fldB f m (ats f m 2) = true) (X NN : Nat) (hX : ats f m 3 = X) (hN : val f m 2 = NN) (hfew : (m : Int) - X < NN) :
    Calls Try.prog 46 #[.pointer (some ⟨p, 0, none⟩)] w fun e w' => e = .panicked (gave 4) ∧ But p w w' := by
  have R := Box8.new w 0 0 0 0 0 0 0 ⟨#[]⟩ 27
  have T := Thaw8.new w 0 0 0 0 0 0 0 ⟨#[]⟩ 27
  have BA := (Below.refl w.heap.size w).alloc (Nat.le_refl _) (.cells #[.int .i64 0, .int .i64 0, .int .i64 0, .int .i64 0, .int .i64 0, .int .i64 0, .int .i64 0, .string ⟨#[]⟩] 27)
  have RD := hr.below BA
  have BT := (But.refl p w).alcH (.cells #[.int .i64 0, .int .i64 0, .int .i64 0, .int .i64 0, .int .i64 0, .int .i64 0, .int .i64 0, .string ⟨#[]⟩] 27)
  have hpw : p < w.heap.size := hr.1
  have hJp : w.heap.size ≠ p := by omega
  clear BA hr
  have CF0 : ∀ v, Rd v p (some ⟨b, off, none⟩) m c f (ats f m 0) → Calls Try.prog 80 #[.pointer (some ⟨p, 0, none⟩)] v fun e w' => e = .returned (.int .i64 (val f m 0)) ∧ Rd w' p (some ⟨b, off, none⟩) m c f (ats f m 1) ∧ But p v w' := fun v h => field_t p (some ⟨b, off, none⟩) m c f (ats f m 0) v h h0
  have CF1 : ∀ v, Rd v p (some ⟨b, off, none⟩) m c f (ats f m 1) → Calls Try.prog 80 #[.pointer (some ⟨p, 0, none⟩)] v fun e w' => e = .returned (.int .i64 (val f m 1)) ∧ Rd w' p (some ⟨b, off, none⟩) m c f (ats f m 2) ∧ But p v w' := fun v h => field_t p (some ⟨b, off, none⟩) m c f (ats f m 1) v h h1
  have CF2 : ∀ v, Rd v p (some ⟨b, off, none⟩) m c f (ats f m 2) → Calls Try.prog 80 #[.pointer (some ⟨p, 0, none⟩)] v fun e w' => e = .returned (.int .i64 (val f m 2)) ∧ Rd w' p (some ⟨b, off, none⟩) m c f (ats f m 3) ∧ But p v w' := fun v h => field_t p (some ⟨b, off, none⟩) m c f (ats f m 2) v h h2
  have hat0 : ats f m 0 = 1 := rfl
  generalize val f m 0 = x0 at *
  generalize val f m 1 = x1 at *
  generalize val f m 2 = x2 at *
  generalize ats f m 0 = y0 at *
  generalize ats f m 1 = y1 at *
  generalize ats f m 2 = y2 at *
  generalize ats f m 3 = y3 at *
  subst hat0
  go_enter Try.func46, Try.ntmps46
  go_wp2_with fail
  refine (kind_any p b off m c f _ RD hm (by omega)).mono ?_
  rintro e v ⟨rfl, RD1, hb⟩
  rw [hk]
  replace R := R.but hb hJp
  replace T := T.but hb (by simp) hJp
  replace BT := BT.trans hb
  clear RD hb
  have RD := RD1
  clear RD1
  have MB := Box8.new v 3 0 0 0 0 0 0 ⟨#[]⟩ 27
  have TM := Thaw8.new v 3 0 0 0 0 0 0 ⟨#[]⟩ 27
  have hjw : w.heap.size < v.heap.size := R.1
  have hjm : v.heap.size ≠ p := by omega
  have hjp : p < v.heap.size := by omega
  have hjJ : v.heap.size ≠ w.heap.size := by omega
  have hjle : w.heap.size ≤ v.heap.size := by omega
  replace T := T.alloc R.1 (.cells #[.int .i64 3, .int .i64 0, .int .i64 0, .int .i64 0, .int .i64 0, .int .i64 0, .int .i64 0, .string ⟨#[]⟩] 27)
  replace R := R.alloc (.cells #[.int .i64 3, .int .i64 0, .int .i64 0, .int .i64 0, .int .i64 0, .int .i64 0, .int .i64 0, .string ⟨#[]⟩] 27)
  replace RD := RD.below ((Below.refl _ _).alloc (Nat.le_refl _) (.cells #[.int .i64 3, .int .i64 0, .int .i64 0, .int .i64 0, .int .i64 0, .int .i64 0, .int .i64 0, .string ⟨#[]⟩] 27))
  replace BT := BT.alcH (.cells #[.int .i64 3, .int .i64 0, .int .i64 0, .int .i64 0, .int .i64 0, .int .i64 0, .int .i64 0, .string ⟨#[]⟩] 27)

  go_wp2_with fail
  refine (CF0 _ RD).mono ?_
  rintro e v0 ⟨rfl, RD1, hb⟩
  replace T := T.but hb R.1 hJp
  replace TM := TM.but hb MB.1 hjm
  replace R := R.but hb hJp
  replace MB := MB.but hb hjm
  replace BT := BT.trans hb
  clear RD hb CF0
  have RD := RD1
  clear RD1
  obtain ⟨b0, b1, b2, b3, b4, b5, b6, b7, b8⟩ := id MB; obtain ⟨s0, s1, s2, s3, s4, s5, s6, s7⟩ := id TM
  skip
  go_wp2_with fail
  clear b0 b1 b2 b3 b4 b5 b6 b7 b8 s0 s1 s2 s3 s4 s5 s6 s7
  skip
  replace RD := RD.setO hjp 1 (.int .i64 x0)
  replace BT := BT.newH hjle 1 (.int .i64 x0)
  replace R := R.setO hjJ 1 (.int .i64 x0)
  replace T := T.set ⟨v.heap.size, 1, none⟩ (.int .i64 x0)
  replace TM := TM.set ⟨v.heap.size, 1, none⟩ (.int .i64 x0)
  replace MB := MB.set1 x0
  generalize v0.setCell ⟨v.heap.size, 1, none⟩ (.int .i64 x0) = u0 at *
  refine (CF1 _ RD).mono ?_
  rintro e v1 ⟨rfl, RD1, hb⟩
  replace T := T.but hb R.1 hJp
  replace TM := TM.but hb MB.1 hjm
  replace R := R.but hb hJp
  replace MB := MB.but hb hjm
  replace BT := BT.trans hb
  clear RD hb CF1
  have RD := RD1
  clear RD1
  obtain ⟨b0, b1, b2, b3, b4, b5, b6, b7, b8⟩ := id MB; obtain ⟨s0, s1, s2, s3, s4, s5, s6, s7⟩ := id TM
  skip
  go_wp2_with fail
  clear b0 b1 b2 b3 b4 b5 b6 b7 b8 s0 s1 s2 s3 s4 s5 s6 s7
  skip
  replace RD := RD.setO hjp 6 (.int .i64 x1)
  replace BT := BT.newH hjle 6 (.int .i64 x1)
  replace R := R.setO hjJ 6 (.int .i64 x1)
  replace T := T.set ⟨v.heap.size, 6, none⟩ (.int .i64 x1)
  replace TM := TM.set ⟨v.heap.size, 6, none⟩ (.int .i64 x1)
  replace MB := MB.set6 x1
  generalize v1.setCell ⟨v.heap.size, 6, none⟩ (.int .i64 x1) = u1 at *
  refine (CF2 _ RD).mono ?_
  rintro e v2 ⟨rfl, RD1, hb⟩
  replace T := T.but hb R.1 hJp
  replace TM := TM.but hb MB.1 hjm
  replace R := R.but hb hJp
  replace MB := MB.but hb hjm
  replace BT := BT.trans hb
  clear RD hb CF2
  have RD := RD1
  clear RD1
  subst hX hN
  go_wp2_with fail
  refine (take_f p b off m c X NN 4 f _ RD hfew).mono ?_
  rintro e v ⟨rfl, hb⟩
  (try go_wp2_with fail)
  exact ⟨rfl, rfl, BT.trans hb⟩
set_option maxRecDepth 100000 in
set_option maxHeartbeats 8000000 in
theorem msg_f30 (p b off m c : Nat) (f : Nat → Int) (w : World) (hr : Rd w p (some ⟨b, off, none⟩) m c f 0) (hm : 1 ≤ m) (hk : f 0 = 3) (h0 : fldB f m (ats f m 0) = false) :
    Calls Try.prog 46 #[.pointer (some ⟨p, 0, none⟩)] w fun e w' => e = .panicked (gave 4) ∧ But p w w' := by
  have R := Box8.new w 0 0 0 0 0 0 0 ⟨#[]⟩ 27
  have T := Thaw8.new w 0 0 0 0 0 0 0 ⟨#[]⟩ 27
  have BA := (Below.refl w.heap.size w).alloc (Nat.le_refl _) (.cells #[.int .i64 0, .int .i64 0, .int .i64 0, .int .i64 0, .int .i64 0, .int .i64 0, .int .i64 0, .string ⟨#[]⟩] 27)
  have RD := hr.below BA
  have BT := (But.refl p w).alcH (.cells #[.int .i64 0, .int .i64 0, .int .i64 0, .int .i64 0, .int .i64 0, .int .i64 0, .int .i64 0, .string ⟨#[]⟩] 27)
  have hpw : p < w.heap.size := hr.1
  have hJp : w.heap.size ≠ p := by omega
  clear BA hr
  have CX : ∀ v, Rd v p (some ⟨b, off, none⟩) m c f (ats f m 0) → Calls Try.prog 80 #[.pointer (some ⟨p, 0, none⟩)] v fun e w' => e = .panicked (gave 4) ∧ But p v w' := fun v h => field_f p (some ⟨b, off, none⟩) m c f (ats f m 0) v h h0
  have hat0 : ats f m 0 = 1 := rfl
  generalize ats f m 0 = y0 at *
  subst hat0
  go_enter Try.func46, Try.ntmps46
  go_wp2_with fail
  refine (kind_any p b off m c f _ RD hm (by omega)).mono ?_
  rintro e v ⟨rfl, RD1, hb⟩
  rw [hk]
  replace R := R.but hb hJp
  replace T := T.but hb (by simp) hJp
  replace BT := BT.trans hb
  clear RD hb
  have RD := RD1
  clear RD1
  have MB := Box8.new v 3 0 0 0 0 0 0 ⟨#[]⟩ 27
  have TM := Thaw8.new v 3 0 0 0 0 0 0 ⟨#[]⟩ 27
  have hjw : w.heap.size < v.heap.size := R.1
  have hjm : v.heap.size ≠ p := by omega
  have hjp : p < v.heap.size := by omega
  have hjJ : v.heap.size ≠ w.heap.size := by omega
  have hjle : w.heap.size ≤ v.heap.size := by omega
  replace T := T.alloc R.1 (.cells #[.int .i64 3, .int .i64 0, .int .i64 0, .int .i64 0, .int .i64 0, .int .i64 0, .int .i64 0, .string ⟨#[]⟩] 27)
  replace R := R.alloc (.cells #[.int .i64 3, .int .i64 0, .int .i64 0, .int .i64 0, .int .i64 0, .int .i64 0, .int .i64 0, .string ⟨#[]⟩] 27)
  replace RD := RD.below ((Below.refl _ _).alloc (Nat.le_refl _) (.cells #[.int .i64 3, .int .i64 0, .int .i64 0, .int .i64 0, .int .i64 0, .int .i64 0, .int .i64 0, .string ⟨#[]⟩] 27))
  replace BT := BT.alcH (.cells #[.int .i64 3, .int .i64 0, .int .i64 0, .int .i64 0, .int .i64 0, .int .i64 0, .int .i64 0, .string ⟨#[]⟩] 27)

  go_wp2_with fail
  refine (CX _ RD).mono ?_
  rintro e v ⟨rfl, hb⟩
  (try go_wp2_with fail)
  exact ⟨rfl, rfl, BT.trans hb⟩
set_option maxRecDepth 100000 in
set_option maxHeartbeats 8000000 in
theorem msg_f31 (p b off m c : Nat) (f : Nat → Int) (w : World) (hr : Rd w p (some ⟨b, off, none⟩) m c f 0) (hm : 1 ≤ m) (hk : f 0 = 3) (h0 : fldB f m (ats f m 0) = true) (h1 : fldB f m (ats f m 1) = false) :
    Calls Try.prog 46 #[.pointer (some ⟨p, 0, none⟩)] w fun e w' => e = .panicked (gave 4) ∧ But p w w' := by
  have R := Box8.new w 0 0 0 0 0 0 0 ⟨#[]⟩ 27
  have T := Thaw8.new w 0 0 0 0 0 0 0 ⟨#[]⟩ 27
  have BA := (Below.refl w.heap.size w).alloc (Nat.le_refl _) (.cells #[.int .i64 0, .int .i64 0, .int .i64 0, .int .i64 0, .int .i64 0, .int .i64 0, .int .i64 0, .string ⟨#[]⟩] 27)
  have RD := hr.below BA
  have BT := (But.refl p w).alcH (.cells #[.int .i64 0, .int .i64 0, .int .i64 0, .int .i64 0, .int .i64 0, .int .i64 0, .int .i64 0, .string ⟨#[]⟩] 27)
  have hpw : p < w.heap.size := hr.1
  have hJp : w.heap.size ≠ p := by omega
  clear BA hr
  have CF0 : ∀ v, Rd v p (some ⟨b, off, none⟩) m c f (ats f m 0) → Calls Try.prog 80 #[.pointer (some ⟨p, 0, none⟩)] v fun e w' => e = .returned (.int .i64 (val f m 0)) ∧ Rd w' p (some ⟨b, off, none⟩) m c f (ats f m 1) ∧ But p v w' := fun v h => field_t p (some ⟨b, off, none⟩) m c f (ats f m 0) v h h0
  have CX : ∀ v, Rd v p (some ⟨b, off, none⟩) m c f (ats f m 1) → Calls Try.prog 80 #[.pointer (some ⟨p, 0, none⟩)] v fun e w' => e = .panicked (gave 4) ∧ But p v w' := fun v h => field_f p (some ⟨b, off, none⟩) m c f (ats f m 1) v h h1
  have hat0 : ats f m 0 = 1 := rfl
  generalize val f m 0 = x0 at *
  generalize ats f m 0 = y0 at *
  generalize ats f m 1 = y1 at *
  subst hat0
  go_enter Try.func46, Try.ntmps46
  go_wp2_with fail
  refine (kind_any p b off m c f _ RD hm (by omega)).mono ?_
  rintro e v ⟨rfl, RD1, hb⟩
  rw [hk]
  replace R := R.but hb hJp
  replace T := T.but hb (by simp) hJp
  replace BT := BT.trans hb
  clear RD hb
  have RD := RD1
  clear RD1
  have MB := Box8.new v 3 0 0 0 0 0 0 ⟨#[]⟩ 27
  have TM := Thaw8.new v 3 0 0 0 0 0 0 ⟨#[]⟩ 27
  have hjw : w.heap.size < v.heap.size := R.1
  have hjm : v.heap.size ≠ p := by omega
  have hjp : p < v.heap.size := by omega
  have hjJ : v.heap.size ≠ w.heap.size := by omega
  have hjle : w.heap.size ≤ v.heap.size := by omega
  replace T := T.alloc R.1 (.cells #[.int .i64 3, .int .i64 0, .int .i64 0, .int .i64 0, .int .i64 0, .int .i64 0, .int .i64 0, .string ⟨#[]⟩] 27)
  replace R := R.alloc (.cells #[.int .i64 3, .int .i64 0, .int .i64 0, .int .i64 0, .int .i64 0, .int .i64 0, .int .i64 0, .string ⟨#[]⟩] 27)
  replace RD := RD.below ((Below.refl _ _).alloc (Nat.le_refl _) (.cells #[.int .i64 3, .int .i64 0, .int .i64 0, .int .i64 0, .int .i64 0, .int .i64 0, .int .i64 0, .string ⟨#[]⟩] 27))
  replace BT := BT.alcH (.cells #[.int .i64 3, .int .i64 0, .int .i64 0, .int .i64 0, .int .i64 0, .int .i64 0, .int .i64 0, .string ⟨#[]⟩] 27)

  go_wp2_with fail
  refine (CF0 _ RD).mono ?_
  rintro e v0 ⟨rfl, RD1, hb⟩
  replace T := T.but hb R.1 hJp
  replace TM := TM.but hb MB.1 hjm
  replace R := R.but hb hJp
  replace MB := MB.but hb hjm
  replace BT := BT.trans hb
  clear RD hb CF0
  have RD := RD1
  clear RD1
  obtain ⟨b0, b1, b2, b3, b4, b5, b6, b7, b8⟩ := id MB; obtain ⟨s0, s1, s2, s3, s4, s5, s6, s7⟩ := id TM
  skip
  go_wp2_with fail
  clear b0 b1 b2 b3 b4 b5 b6 b7 b8 s0 s1 s2 s3 s4 s5 s6 s7
  skip
  replace RD := RD.setO hjp 1 (.int .i64 x0)
  replace BT := BT.newH hjle 1 (.int .i64 x0)
  replace R := R.setO hjJ 1 (.int .i64 x0)
  replace T := T.set ⟨v.heap.size, 1, none⟩ (.int .i64 x0)
  replace TM := TM.set ⟨v.heap.size, 1, none⟩ (.int .i64 x0)
  replace MB := MB.set1 x0
  generalize v0.setCell ⟨v.heap.size, 1, none⟩ (.int .i64 x0) = u0 at *
  refine (CX _ RD).mono ?_
  rintro e v ⟨rfl, hb⟩
  (try go_wp2_with fail)
  exact ⟨rfl, rfl, BT.trans hb⟩
set_option maxRecDepth 100000 in
set_option maxHeartbeats 8000000 in
theorem msg_f32 (p b off m c : Nat) (f : Nat → Int) (w : World) (hr : Rd w p (some ⟨b, off, none⟩) m c f 0) (hm : 1 ≤ m) (hk : f 0 = 3) (h0 : fldB f m (ats f m 0) = true) (h1 : fldB f m (ats f m 1) = true) (h2 : fldB f m (ats f m 2) = false) :
    Calls Try.prog 46 #[.pointer (some ⟨p, 0, none⟩)] w fun e w' => e = .panicked (gave 4) ∧ But p w w' := by
  have R := Box8.new w 0 0 0 0 0 0 0 ⟨#[]⟩ 27
  have T := Thaw8.new w 0 0 0 0 0 0 0 ⟨#[]⟩ 27
  have BA := (Below.refl w.heap.size w).alloc (Nat.le_refl _) (.cells #[.int .i64 0, .int .i64 0, .int .i64 0, .int .i64 0, .int .i64 0, .int .i64 0, .int .i64 0, .string ⟨#[]⟩] 27)
  have RD := hr.below BA
  have BT := (But.refl p w).alcH (.cells #[.int .i64 0, .int .i64 0, .int .i64 0, .int .i64 0, .int .i64 0, .int .i64 0, .int .i64 0, .string ⟨#[]⟩] 27)
  have hpw : p < w.heap.size := hr.1
  have hJp : w.heap.size ≠ p := by omega
  clear BA hr
  have CF0 : ∀ v, Rd v p (some ⟨b, off, none⟩) m c f (ats f m 0) → Calls Try.prog 80 #[.pointer (some ⟨p, 0, none⟩)] v fun e w' => e = .returned (.int .i64 (val f m 0)) ∧ Rd w' p (some ⟨b, off, none⟩) m c f (ats f m 1) ∧ But p v w' := fun v h => field_t p (some ⟨b, off, none⟩) m c f (ats f m 0) v h h0
  have CF1 : ∀ v, Rd v p (some ⟨b, off, none⟩) m c f (ats f m 1) → Calls Try.prog 80 #[.pointer (some ⟨p, 0, none⟩)] v fun e w' => e = .returned (.int .i64 (val f m 1)) ∧ Rd w' p (some ⟨b, off, none⟩) m c f (ats f m 2) ∧ But p v w' := fun v h => field_t p (some ⟨b, off, none⟩) m c f (ats f m 1) v h h1
  have CX : ∀ v, Rd v p (some ⟨b, off, none⟩) m c f (ats f m 2) → Calls Try.prog 80 #[.pointer (some ⟨p, 0, none⟩)] v fun e w' => e = .panicked (gave 4) ∧ But p v w' := fun v h => field_f p (some ⟨b, off, none⟩) m c f (ats f m 2) v h h2
  have hat0 : ats f m 0 = 1 := rfl
  generalize val f m 0 = x0 at *
  generalize val f m 1 = x1 at *
  generalize ats f m 0 = y0 at *
  generalize ats f m 1 = y1 at *
  generalize ats f m 2 = y2 at *
  subst hat0
  go_enter Try.func46, Try.ntmps46
  go_wp2_with fail
  refine (kind_any p b off m c f _ RD hm (by omega)).mono ?_
  rintro e v ⟨rfl, RD1, hb⟩
  rw [hk]
  replace R := R.but hb hJp
  replace T := T.but hb (by simp) hJp
  replace BT := BT.trans hb
  clear RD hb
  have RD := RD1
  clear RD1
  have MB := Box8.new v 3 0 0 0 0 0 0 ⟨#[]⟩ 27
  have TM := Thaw8.new v 3 0 0 0 0 0 0 ⟨#[]⟩ 27
  have hjw : w.heap.size < v.heap.size := R.1
  have hjm : v.heap.size ≠ p := by omega
  have hjp : p < v.heap.size := by omega
  have hjJ : v.heap.size ≠ w.heap.size := by omega
  have hjle : w.heap.size ≤ v.heap.size := by omega
  replace T := T.alloc R.1 (.cells #[.int .i64 3, .int .i64 0, .int .i64 0, .int .i64 0, .int .i64 0, .int .i64 0, .int .i64 0, .string ⟨#[]⟩] 27)
  replace R := R.alloc (.cells #[.int .i64 3, .int .i64 0, .int .i64 0, .int .i64 0, .int .i64 0, .int .i64 0, .int .i64 0, .string ⟨#[]⟩] 27)
  replace RD := RD.below ((Below.refl _ _).alloc (Nat.le_refl _) (.cells #[.int .i64 3, .int .i64 0, .int .i64 0, .int .i64 0, .int .i64 0, .int .i64 0, .int .i64 0, .string ⟨#[]⟩] 27))
  replace BT := BT.alcH (.cells #[.int .i64 3, .int .i64 0, .int .i64 0, .int .i64 0, .int .i64 0, .int .i64 0, .int .i64 0, .string ⟨#[]⟩] 27)

  go_wp2_with fail
  refine (CF0 _ RD).mono ?_
  rintro e v0 ⟨rfl, RD1, hb⟩
  replace T := T.but hb R.1 hJp
  replace TM := TM.but hb MB.1 hjm
  replace R := R.but hb hJp
  replace MB := MB.but hb hjm
  replace BT := BT.trans hb
  clear RD hb CF0
  have RD := RD1
  clear RD1
  obtain ⟨b0, b1, b2, b3, b4, b5, b6, b7, b8⟩ := id MB; obtain ⟨s0, s1, s2, s3, s4, s5, s6, s7⟩ := id TM
  skip
  go_wp2_with fail
  clear b0 b1 b2 b3 b4 b5 b6 b7 b8 s0 s1 s2 s3 s4 s5 s6 s7
  skip
  replace RD := RD.setO hjp 1 (.int .i64 x0)
  replace BT := BT.newH hjle 1 (.int .i64 x0)
  replace R := R.setO hjJ 1 (.int .i64 x0)
  replace T := T.set ⟨v.heap.size, 1, none⟩ (.int .i64 x0)
  replace TM := TM.set ⟨v.heap.size, 1, none⟩ (.int .i64 x0)
  replace MB := MB.set1 x0
  generalize v0.setCell ⟨v.heap.size, 1, none⟩ (.int .i64 x0) = u0 at *
  refine (CF1 _ RD).mono ?_
  rintro e v1 ⟨rfl, RD1, hb⟩
  replace T := T.but hb R.1 hJp
  replace TM := TM.but hb MB.1 hjm
  replace R := R.but hb hJp
  replace MB := MB.but hb hjm
  replace BT := BT.trans hb
  clear RD hb CF1
  have RD := RD1
  clear RD1
  obtain ⟨b0, b1, b2, b3, b4, b5, b6, b7, b8⟩ := id MB; obtain ⟨s0, s1, s2, s3, s4, s5, s6, s7⟩ := id TM
  skip
  go_wp2_with fail
  clear b0 b1 b2 b3 b4 b5 b6 b7 b8 s0 s1 s2 s3 s4 s5 s6 s7
  skip
  replace RD := RD.setO hjp 6 (.int .i64 x1)
  replace BT := BT.newH hjle 6 (.int .i64 x1)
  replace R := R.setO hjJ 6 (.int .i64 x1)
  replace T := T.set ⟨v.heap.size, 6, none⟩ (.int .i64 x1)
  replace TM := TM.set ⟨v.heap.size, 6, none⟩ (.int .i64 x1)
  replace MB := MB.set6 x1
  generalize v1.setCell ⟨v.heap.size, 6, none⟩ (.int .i64 x1) = u1 at *
  refine (CX _ RD).mono ?_
  rintro e v ⟨rfl, hb⟩
  (try go_wp2_with fail)
  exact ⟨rfl, rfl, BT.trans hb⟩
end Go.Proofs.Ytbflhhifkhoapaa
