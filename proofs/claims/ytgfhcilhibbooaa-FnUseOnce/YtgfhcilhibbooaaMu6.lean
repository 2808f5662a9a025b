/- What the draw of a table leaves. -/
import Derived.Test.YtgfhcilhibbooaaMu3
import Derived.Test.YtgfhcilhibbooaaMu5
import Derived.Deep.RegionHeld3
import Derived.Deep.DeepCutAuto
import Derived.WalkKit
import Derived.WalkSpells
import Derived.WalkLawsBesides
import Derived.Deep.RegionHeld
namespace Go.Proofs.Ytgfhcilhibbooaa
open Go.RowKit
set_option linter.unusedVariables false
def kwf (M : Nat → KT) (n : Nat) : Prop := ∀ i, i < n → (Lit.int .i64 (M i).1).wf = true ∧ (Lit.int .i64 (M i).2.1).wf = true
theorem wf_small {x : Int} (h : -9 ≤ x ∧ x ≤ 4294967295) : (Lit.int .i64 x).wf = true := by simp only [Lit.wf, Bool.and_eq_true, decide_eq_true_eq]; exact ⟨by show (-9223372036854775808 : Int) ≤ x; omega, by show x ≤ (9223372036854775807 : Int); omega⟩
/- A table in a box beside the cursor, its asks in a row of one's own. -/
def Tw (w0 : World) (B p bt : Nat) (w : World) (ep us : Int) (A : Option Addr) (n c : Nat) (M : Nat → KT) : Prop := Bx3 w bt (.int .i64 ep) (.int .i64 us) (.slice A n c) ∧ w.ownsRow (w0.heap.size + 1) 43 4 (.slice A n c) n (krow M n) ∧ CurOk w B p ∧ But p w0 w ∧ Bx3 w w0.heap.size (.int .i64 0) (.int .i64 0) (.slice none 0 0)
theorem Tw.but {w0 w w' : World} {B p bt : Nat} {ep us : Int} {A : Option Addr} {n c : Nat} {M : Nat → KT} (h : Tw w0 B p bt w ep us A n c M) (hc : CurOk w' B p) (hb : But p w w') (hp : p < w0.heap.size) (hbt : w0.heap.size < bt) : Tw w0 B p bt w' ep us A n c M :=
 ⟨h.1.but hb (by omega), own_butK h.2.1 hb (by omega), hc, h.2.2.2.1.trans hb, h.2.2.2.2.but hb (by omega)⟩
theorem Tw.below {w0 w w' : World} {B p bt : Nat} {ep us : Int} {A : Option Addr} {n c : Nat} {M : Nat → KT} (h : Tw w0 B p bt w ep us A n c M) (hb : Below w.heap.size w w') : Tw w0 B p bt w' ep us A n c M :=
 ⟨h.1.below hb, own_belK' h.2.1 hb, h.2.2.1.below hb, h.2.2.2.1.trans (But.of_below hb), h.2.2.2.2.below hb⟩
theorem Tw.drew {w0 w : World} {B p bt : Nat} {ep us : Int} {A : Option Addr} {n c : Nat} {M : Nat → KT} (h : Tw w0 B p bt w ep us A n c M) : Tw w0 B p bt w.drew ep us A n c M := h
/- A new block, written, that is neither the table's nor the row's. -/
theorem Tw.other {w0 w w' : World} {B p bt j : Nat} {ep us : Int} {A : Option Addr} {n c : Nat} {M : Nat → KT} (h : Tw w0 B p bt w ep us A n c M) (hb : But j w w') (hc : CurOk w' B p) (hj : bt < j) (hbt : w0.heap.size < bt) (hg : ∀ g, (Value.slice A n c).ownBlock = some g → g ≠ j) : Tw w0 B p bt w' ep us A n c M :=
 ⟨h.1.but hb (by omega), own_neK h.2.1 hb hg, hc, h.2.2.2.1.newK hb (by omega), h.2.2.2.2.but hb (by omega)⟩
def put3 (w : World) (j : Nat) (u0 u1 u2 : Value) : World := ((w.setCell ⟨j, 0, none⟩ u0).setCell ⟨j, 1, none⟩ u1).setCell ⟨j, 2, none⟩ u2
theorem put3_but (w : World) (j : Nat) (u0 u1 u2 : Value) : But j w (put3 w j u0 u1 u2) := (((But.refl j w).setCell _ _).setCell _ _).setCell _ _
theorem CurOk.put3 {w : World} {B p k : Nat} (h : CurOk w B p) (hk : k ≠ p) (hB : B ≤ k) (u0 u1 u2 : Value) : CurOk (put3 w k u0 u1 u2) B p := ((h.setOther hk hB _ _).setOther hk hB _ _).setOther hk hB _ _
theorem CurOk.put4 {w : World} {B p k : Nat} (h : CurOk w B p) (hk : k ≠ p) (hB : B ≤ k) (x0 x1 x2 x3 : Int) : CurOk (put4 w k x0 x1 x2 x3) B p := (((h.setOther hk hB _ _).setOther hk hB _ _).setOther hk hB _ _).setOther hk hB _ _
/- The table's box takes another table, whose row is not empty. -/
theorem Tw.take {w0 w : World} {B p bt : Nat} {ep us : Int} {A : Option Addr} {n c : Nat} {M : Nat → KT} (h : Tw w0 B p bt w ep us A n c M) (hp : p < w0.heap.size) (hB : B ≤ p) (hbt : w0.heap.size < bt) (ep' us' : Int) {A' : Option Addr} {n' c' : Nat} {M' : Nat → KT} (hn : 0 < n') (ho : w.ownsRow (w0.heap.size + 1) 43 4 (.slice A' n' c') n' (krow M' n')) : Tw w0 B p bt (put3 w bt (.int .i64 ep') (.int .i64 us') (.slice A' n' c')) ep' us' A' n' c' M' :=
 ⟨h.1.set _ _ _, own_neK ho (put3_but _ _ _ _ _) (no_box ho hn h.1), CurOk.put3 h.2.2.1 (by omega) (by omega) _ _ _, h.2.2.2.1.newK (put3_but _ _ _ _ _) (by omega), h.2.2.2.2.but (put3_but _ _ _ _ _) (by omega)⟩
theorem Tw.used {w0 w : World} {B p bt : Nat} {ep us : Int} {A : Option Addr} {n c : Nat} {M : Nat → KT} (h : Tw w0 B p bt w ep us A n c M) (hp : p < w0.heap.size) (hB : B ≤ p) (hbt : w0.heap.size < bt) (us' : Int) (hg : ∀ g, (Value.slice A n c).ownBlock = some g → g ≠ bt) : Tw w0 B p bt (w.setCell ⟨bt, 1, none⟩ (.int .i64 us')) ep us' A n c M :=
 ⟨h.1.set1 _, own_neK h.2.1 (But.oneK _ _ _ _) hg, h.2.2.1.setOther (by omega) (by omega) _ _, h.2.2.2.1.newK (But.oneK _ _ _ _) (by omega), h.2.2.2.2.but (But.oneK _ _ _ _) (by omega)⟩
theorem Bx3.set0 {w : World} {j : Nat} {u0 u1 u2 : Value} (h : Bx3 w j u0 u1 u2) (a0 : Value) : Bx3 (w.setCell ⟨j, 0, none⟩ a0) j a0 u1 u2 := by
 obtain ⟨h0, h1, h2, h3, f1, f2, f3⟩ := h
 exact ⟨by simpa using h0, World.cell?_setCell_same _ _ _ h1, by rw [World.cell?_setCell_other _ _ _ _ (by simp)]; exact h2, by rw [World.cell?_setCell_other _ _ _ _ (by simp)]; exact h3, by simpa using f1, by simpa using f2, by simpa using f3⟩
theorem Tw.epoch {w0 w : World} {B p bt : Nat} {ep us : Int} {A : Option Addr} {n c : Nat} {M : Nat → KT} (h : Tw w0 B p bt w ep us A n c M) (hp : p < w0.heap.size) (hB : B ≤ p) (hbt : w0.heap.size < bt) (ep' : Int) (hg : ∀ g, (Value.slice A n c).ownBlock = some g → g ≠ bt) : Tw w0 B p bt (w.setCell ⟨bt, 0, none⟩ (.int .i64 ep')) ep' us A n c M :=
 ⟨h.1.set0 _, own_neK h.2.1 (But.oneK _ _ _ _) hg, h.2.2.1.setOther (by omega) (by omega) _ _, h.2.2.2.1.newK (But.oneK _ _ _ _) (by omega), h.2.2.2.2.but (But.oneK _ _ _ _) (by omega)⟩
theorem Tw.result {w0 w : World} {B p bt : Nat} {ep us : Int} {A : Option Addr} {n c : Nat} {M : Nat → KT} (h : Tw w0 B p bt w ep us A n c M) (hp : p < w0.heap.size) (hB : B ≤ p) {u0 u1 u2 : Value} : (put3 w w0.heap.size u0 u1 u2).ownsRow w0.heap.size 43 4 (.slice A n c) n (krow M n) ∧ CurOk (put3 w w0.heap.size u0 u1 u2) B p ∧ But p w0 (put3 w w0.heap.size u0 u1 u2) :=
 ⟨ownK_le (own_butK h.2.1 (put3_but w w0.heap.size u0 u1 u2) (by omega)) (by omega), CurOk.put3 h.2.2.1 (by omega) (by omega) _ _ _, h.2.2.2.1.newK (put3_but _ _ _ _ _) (Nat.le_refl _)⟩
theorem nil_block (j : Nat) : ∀ g, (Value.slice none 0 0).ownBlock = some g → g ≠ j := by intro g hg; simp [Value.ownBlock] at hg
theorem kwf_add {M : Nat → KT} {n : Nat} {x0 x1 x2 x3 : Int} (h : kwf M n) (hx : (Lit.int .i64 x0).wf = true) (hx1 : 0 ≤ x1 ∧ x1 ≤ 4294967295) : kwf (addG M n (kT x0 x1 x2 x3)) (n + 1) := by
 intro i hi
 unfold addG
 by_cases e : i = n
 ·rw [if_pos e]; exact ⟨hx, wf_small (x := x1) ⟨by omega, hx1.2⟩⟩
 ·rw [if_neg e]; exact h i (by omega)
def TabDrawn (w : World) (B p : Nat) (e : Ending) (w' : World) : Prop := ∃ (ep us : Int) (A : Option Addr) (n c : Nat) (M : Nat → KT), e = .returned (.agg #[.int .i64 ep, .int .i64 us, .slice A n c]) ∧ (0 ≤ ep ∧ ep ≤ 100000) ∧ (0 ≤ us ∧ us ≤ 1000) ∧ n ≤ 16 ∧ kwf M n ∧ w'.ownsRow w.heap.size 43 4 (.slice A n c) n (krow M n) ∧ CurOk w' B p ∧ But p w w'
set_option maxRecDepth 100000 in
set_option maxHeartbeats 8000000 in
theorem l7DrawTable_any (B p : Nat) (w : World) (hcur : CurOk w B p) :
 Calls Try.prog 47 #[.pointer (some ⟨p, 0, none⟩)] w fun e w' => TabDrawn w B p e w' := by
 have hpl := hcur.lt
 have hp : p < w.heap.size := hpl.1
 have hB : B ≤ p := hpl.2
 have hpw : w.heap.size ≠ p := by omega
 have A1 := Below.nw w (.cells #[.int .i64 0, .int .i64 0, .slice none 0 0] 39)
 have R := Bx3.new w (.int .i64 0) (.int .i64 0) (.slice none 0 0) 39
 go_enter Try.func47, Try.ntmps47
 go_wp2_with fail
 refine (l1Below_any B p 3 _ (by exact hcur.below A1)).mono ?_
 rintro e w1 ⟨x, rfl, xl, xh, xp, xz, c1, b1⟩
 have hx := xp (by omega)
 replace R := R.but b1 hpw
 have q1 : But p w w1 := (But.of_below A1).trans b1
 have A2 := Below.nw w1 (.cells #[.int .i64 x, .int .i64 0, .slice none 0 0] 39)
 have T : Tw w B p w1.heap.size (w1.alloc (.cells #[.int .i64 x, .int .i64 0, .slice none 0 0] 39)) x 0 none 0 0 (fun _ => kT 0 0 0 0) := ⟨Bx3.new w1 _ _ _ _, World.ownsRow_nil _ _ _ _, c1.below A2, q1.alloc _, R.below A2⟩
 have hbt : w.heap.size < w1.heap.size := R.1
 clear A1 A2 b1 q1 R xp xz c1 hcur xh
 go_wp2_with fail
 generalize w1.heap.size = bt at *
 generalize w1.alloc (.cells #[.int .i64 x, .int .i64 0, .slice none 0 0] 39) = v at *
 have hbp : bt ≠ p := by omega
 refine (l1Once_any B p 15 _ T.2.2.1).mono ?_
 rintro e v1 ⟨oo, rfl, cc, bb⟩
 replace T := T.but cc bb hp hbt
 clear cc bb
 go_upto_if 12 with fail
 go_cut [3] (fun s3 wx => ∃ ep : Int, s3 = .pointer (some ⟨bt, 0, none⟩) ∧ 0 ≤ ep ∧ ep ≤ 100000 ∧ Tw w B p bt wx ep 0 none 0 0 (fun _ => kT 0 0 0 0))
 case first =>
  cases oo
  ·go_wp2_with fail
   go_meet
   case rel => exact ⟨x, rfl, xl, by omega, T⟩
  ·have T2 := T.epoch hp hB hbt 100000 (nil_block _)
   obtain ⟨n0, n1, n2, n3, n4, n5, n6⟩ := id T.1
   go_wp2_with fail
   go_meet
   case rel => exact ⟨100000, rfl, by omega, by omega, T2⟩
 case rest =>
  obtain ⟨ep, rfl, e0, e1, T1⟩ := hcut
  have hep : 0 ≤ ep ∧ ep ≤ 100000 := ⟨e0, e1⟩
  clear T hx xl
  go_wp2_with fail
  refine (l1Once_any B p 8 _ T1.2.2.1).mono ?_
  rintro e v2 ⟨oo, rfl, cc, bb⟩
  have T := T1.but cc bb hp hbt
  clear cc bb T1
  go_upto_if 15 with fail
  go_cut [3] (fun s3 wx => ∃ us : Int, s3 = .pointer (some ⟨bt, 0, none⟩) ∧ 0 ≤ us ∧ us ≤ 1000 ∧ Tw w B p bt wx ep us none 0 0 (fun _ => kT 0 0 0 0))
  case first =>
   cases oo
   ·go_wp2_with fail
    go_meet
    case rel => exact ⟨0, rfl, by omega, by omega, T⟩
   ·go_wp2_with fail
    refine (l1Below_any B p 6 _ T.2.2.1).mono ?_
    rintro e v3 ⟨y, rfl, yl, yh, yp, yz, cc, bb⟩
    have hy := yp (by omega)
    replace T := T.but cc bb hp hbt
    clear cc bb yp yz yh
    have T2 := T.used hp hB hbt (999 - y) (nil_block _)
    obtain ⟨n0, n1, n2, n3, n4, n5, n6⟩ := id T.1
    go_wp2_with fail
    go_meet
    case rel => exact ⟨999 - y, rfl, by omega, by omega, T2⟩
  case rest =>
   obtain ⟨us0, rfl, u0, u1, T1⟩ := hcut
   clear T
   go_wp2_with fail
   refine (l1Below_any B p 7 _ T1.2.2.1).mono ?_
   rintro e v3 ⟨m0, rfl, ml, mh, mp, mz, cc, bb⟩
   have hm := mp (by omega)
   have T := T1.but cc bb hp hbt
   clear cc bb mp mz mh T1
   go_wp2_with fail
   refine (l1Once_any B p 12 _ T.2.2.1).mono ?_
   rintro e v4 ⟨oo, rfl, cc, bb⟩
   replace T := T.but cc bb hp hbt
   clear cc bb
   go_upto_if 23 with fail
   go_cut [4] (fun s4 wx => ∃ m : Int, s4 = .int .i64 m ∧ 0 ≤ m ∧ m ≤ 16 ∧ Tw w B p bt wx ep us0 none 0 0 (fun _ => kT 0 0 0 0))
   case first =>
    cases oo
    ·go_wp2_with fail
     go_meet
     case rel => exact ⟨m0, rfl, ml, by omega, T⟩
    ·go_wp2_with fail
     go_meet
     case rel => exact ⟨16, rfl, by omega, by omega, T⟩
   case rest =>
    obtain ⟨m, rfl, g0, g1, T0⟩ := hcut
    clear T hm ml
    go_wp2_with fail
    go_loopw [5] (fun i wr => ∃ (us : Int) (A : Option Addr) (n c : Nat) (M : Nat → KT), i = .int .i64 (n : Int) ∧ (n : Int) ≤ m ∧ 0 ≤ us ∧ us ≤ 1000 ∧ kwf M n ∧ Tw w B p bt wr ep us A n c M) (fun i _ => m.toNat - (intOf i).toNat)
    case atStart => exact ⟨us0, none, 0, 0, _, rfl, g0, u0, u1, (fun i hi => by omega), T0⟩
    case round =>
     obtain ⟨us, A, n, c, M, rfl, hnm, hu0, hu1, hk, T⟩ := hrel
     clear T0 u0 u1
     have hus : 0 ≤ us ∧ us ≤ 1000 := ⟨hu0, hu1⟩
     by_cases hlt : (n : Int) < m
     ·by_cases hu : us < 1000
      ·obtain ⟨nn, hnn0⟩ : ∃ q, ep * 1000 + us = q := ⟨_, rfl⟩
       have hnw : (Lit.int .i64 nn).wf = true := by simp only [Lit.wf, Bool.and_eq_true, decide_eq_true_eq]; exact ⟨by show (-9223372036854775808 : Int) ≤ nn; omega, by show nn ≤ (9223372036854775807 : Int); omega⟩
       have HNN : Hid (ep * 1000 + us = nn) := hnn0
       clear hnn0
       obtain ⟨n0, n1, n2, n3, n4, n5, n6⟩ := id T.1
       go_upto_region 12 with fail
       go_cut [6, 7] from 24 to 57 (fun s6 s7 wx => ∃ (j6 : Nat) (a' : Option Addr) (c' : Nat) (x1 x2 x3 : Int), s6 = .pointer (some ⟨j6, 0, none⟩) ∧ j6 ≠ bt ∧ (0 ≤ x1 ∧ x1 ≤ 4294967295) ∧ Bx3 wx j6 (.int .i64 ep) (.int .i64 (us + 1)) (.slice a' (n + 1) c') ∧ wx.ownsRow (w.heap.size + 1) 43 4 (.slice a' (n + 1) c') (n + 1) (krow (addG M n (kT nn x1 x2 x3)) (n + 1)) ∧ Tw w B p bt wx ep us A n c M)
       case first =>
        refine wp_region_held_drew (S := (fun w' => w'.cell? ⟨bt, 0, none⟩ = some (.int .i64 ep) ∧ w'.cell? ⟨bt, 1, none⟩ = some (.int .i64 us) ∧ w'.cell? ⟨bt, 2, none⟩ = some (.slice A n c))) (by kernel_rfl) ?_ (fun hHeld => ?_)
        ·first | exact ⟨n1, n2, n3⟩ | (simp (maxDischargeDepth := 6) [go_sem, *]; done)
        clear n0 n1 n2 n3 n4 n5 n6
        replace T := T.drew
        generalize wr.drew = v at *
        (obtain ⟨n0, n1, n2, n3, n4, n5, n6⟩ := id T.1)
        refine wpAnyH_take (i := 0) (v := ?_) (by rw [List.getElem?_toArray]; rfl) (by kernel_rfl) (by kernel_rfl) (by kernel_rfl) (by intro _ _ _ h; exact h) (Or.inl ⟨by rfl, ?_⟩) (by assumption) ?_
        rotate_left
        ·(intro w hSw; (try dsimp only at hSw); go_simp; all_goals with_reducible rfl)
        (try simp only [Act.put, List.setIfInBounds_toArray, List.set_cons_zero, List.set_cons_succ])
        refine wpAnyH_take (i := 1) (v := ?_) (by rw [List.getElem?_toArray]; rfl) (by kernel_rfl) (by kernel_rfl) (by kernel_rfl) (by intro _ _ _ h; exact h) (Or.inl ⟨by rfl, ?_⟩) (by assumption) ?_
        rotate_left
        ·(intro w hSw; (try dsimp only at hSw); go_simp; all_goals with_reducible rfl)
        (try simp only [Act.put, List.setIfInBounds_toArray, List.set_cons_zero, List.set_cons_succ])
        refine wpAnyH_take (i := 3) (v := ?_) (by rw [List.getElem?_toArray]; rfl) (by kernel_rfl) (by kernel_rfl) (by kernel_rfl) (by intro _ _ _ h; exact h) (Or.inl ⟨by rfl, ?_⟩) (by assumption) ?_
        rotate_left
        ·(intro w hSw; (try dsimp only at hSw); go_simp; all_goals with_reducible rfl)
        (try simp only [Act.put, List.setIfInBounds_toArray, List.set_cons_zero, List.set_cons_succ])
        refine wpAnyH_take (i := 5) (v := ?_) (by rw [List.getElem?_toArray]; rfl) (by kernel_rfl) (by kernel_rfl) (by kernel_rfl) (by intro _ _ _ h; exact h) (Or.inl ⟨by rfl, ?_⟩) (by assumption) ?_
        rotate_left
        ·(intro w hSw; (try dsimp only at hSw); go_simp; all_goals with_reducible rfl)
        (try simp only [Act.put, List.setIfInBounds_toArray, List.set_cons_zero, List.set_cons_succ])
        refine wpAnyH_ready (rs := [2, 12, 13]) (by kernel_rfl) (by simp) ?_
        refine (AllReadyH.cons (by rw [List.getElem?_toArray]; rfl) (fun K hK => ?_) (AllReadyH.cons (by rw [List.getElem?_toArray]; rfl) (fun K hK => ?_) (AllReadyH.cons (by rw [List.getElem?_toArray]; rfl) (fun K hK => ?_) AllReadyH.nil)))
        ·go_simp
         refine (l1Below_any B p 4 _ T.2.2.1).mono ?_; rintro e v1 ⟨x1, rfl, x1l, x1h, _, _, cc, bb⟩; clear n0 n1 n2 n3 n4 n5 n6; (replace T := T.but cc bb hp hbt); clear cc bb; (obtain ⟨n0, n1, n2, n3, n4, n5, n6⟩ := id T.1)
         (try go_wp2_with fail)
         refine hK.out _ _ ?_ (fun hHeld => ?_)
         ·first | exact ⟨n1, n2, n3⟩ | (simp (maxDischargeDepth := 6) [go_sem, *]; done)
         clear hK K
         (try simp only [Act.put, List.setIfInBounds_toArray, List.set_cons_zero, List.set_cons_succ])
         refine wpAnyH_ready (rs := [4, 12, 13]) (by kernel_rfl) (by simp) ?_
         refine (AllReadyH.cons (by rw [List.getElem?_toArray]; rfl) (fun K hK => ?_) (AllReadyH.cons (by rw [List.getElem?_toArray]; rfl) (fun K hK => ?_) (AllReadyH.cons (by rw [List.getElem?_toArray]; rfl) (fun K hK => ?_) AllReadyH.nil)))
         ·go_simp
          refine (l1Below_any B p 60 _ T.2.2.1).mono ?_; rintro e v2 ⟨x2, rfl, x2l, x2h, _, _, cc, bb⟩; clear n0 n1 n2 n3 n4 n5 n6; (replace T := T.but cc bb hp hbt); clear cc bb; (obtain ⟨n0, n1, n2, n3, n4, n5, n6⟩ := id T.1)
          (try go_wp2_with fail)
          refine hK.out _ _ ?_ (fun hHeld => ?_)
          ·first | exact ⟨n1, n2, n3⟩ | (simp (maxDischargeDepth := 6) [go_sem, *]; done)
          clear hK K
          (try simp only [Act.put, List.setIfInBounds_toArray, List.set_cons_zero, List.set_cons_succ])
          refine wpAnyH_ready (rs := [6, 12, 13]) (by kernel_rfl) (by simp) ?_
          refine (AllReadyH.cons (by rw [List.getElem?_toArray]; rfl) (fun K hK => ?_) (AllReadyH.cons (by rw [List.getElem?_toArray]; rfl) (fun K hK => ?_) (AllReadyH.cons (by rw [List.getElem?_toArray]; rfl) (fun K hK => ?_) AllReadyH.nil)))
          ·go_simp
           refine (l1Below_any B p 4 _ T.2.2.1).mono ?_; rintro e v3 ⟨x3, rfl, x3l, x3h, _, _, cc, bb⟩; clear n0 n1 n2 n3 n4 n5 n6; (replace T := T.but cc bb hp hbt); clear cc bb; (obtain ⟨n0, n1, n2, n3, n4, n5, n6⟩ := id T.1)
           (try go_wp2_with fail)
           refine hK.out _ _ ?_ (fun hHeld => ?_)
           ·first | exact ⟨n1, n2, n3⟩ | (simp (maxDischargeDepth := 6) [go_sem, *]; done)
           clear hK K
           (try simp only [Act.put, List.setIfInBounds_toArray, List.set_cons_zero, List.set_cons_succ])
           refine wpAnyH_take (i := 7) (v := ?_) (by rw [List.getElem?_toArray]; rfl) (by kernel_rfl) (by kernel_rfl) (by kernel_rfl) (by intro _ _ _ h; exact h) (Or.inl ⟨by rfl, ?_⟩) (by assumption) ?_
           rotate_left
           ·(intro w hSw; (try dsimp only at hSw); go_simp; all_goals with_reducible rfl)
           (try simp only [Act.put, List.setIfInBounds_toArray, List.set_cons_zero, List.set_cons_succ])
           refine wpAnyH_ready (rs := [8, 12, 13]) (by kernel_rfl) (by simp) ?_
           refine (AllReadyH.cons (by rw [List.getElem?_toArray]; rfl) (fun K hK => ?_) (AllReadyH.cons (by rw [List.getElem?_toArray]; rfl) (fun K hK => ?_) (AllReadyH.cons (by rw [List.getElem?_toArray]; rfl) (fun K hK => ?_) AllReadyH.nil)))
           ·go_simp
            refine (l7Put_opt ep us _ _ _ nn A n c M _ (by omega) (FromsO.own T.2.1) hep hus HNN.out).mono ?_; rintro e v4 ⟨a', c', rfl, O, bb⟩; clear n0 n1 n2 n3 n4 n5 n6; (have hsz : w.heap.size + 1 ≤ v3.heap.size := Nat.le_of_lt (Nat.lt_of_le_of_lt hbt T.1.1)); (replace T := T.below bb); (replace O := ownK_le O hsz); clear bb hsz; (obtain ⟨n0, n1, n2, n3, n4, n5, n6⟩ := id T.1)
            (try go_wp2_with fail)
            refine hK.out _ _ ?_ (fun hHeld => ?_)
            ·first | exact ⟨n1, n2, n3⟩ | (simp (maxDischargeDepth := 6) [go_sem, *]; done)
            clear hK K
            (try simp only [Act.put, List.setIfInBounds_toArray, List.set_cons_zero, List.set_cons_succ])
            refine wpAnyH_take (i := 9) (v := ?_) (by rw [List.getElem?_toArray]; rfl) (by kernel_rfl) (by kernel_rfl) (by kernel_rfl) (by intro _ _ _ h; exact h) (Or.inl ⟨by rfl, ?_⟩) (by assumption) ?_
            rotate_left
            ·(intro w hSw; (try dsimp only at hSw); go_simp; all_goals with_reducible rfl)
            (try simp only [Act.put, List.setIfInBounds_toArray, List.set_cons_zero, List.set_cons_succ])
            refine wpAnyH_take (i := 10) (v := ?_) (by rw [List.getElem?_toArray]; rfl) (by kernel_rfl) (by kernel_rfl) (by kernel_rfl) (by intro _ _ _ h; exact h) (Or.inl ⟨by rfl, ?_⟩) (by assumption) ?_
            rotate_left
            ·(intro w hSw; (try dsimp only at hSw); go_simp; all_goals with_reducible rfl)
            (try simp only [Act.put, List.setIfInBounds_toArray, List.set_cons_zero, List.set_cons_succ])
            refine wpAnyH_take (i := 11) (v := ?_) (by rw [List.getElem?_toArray]; rfl) (by kernel_rfl) (by kernel_rfl) (by kernel_rfl) (by intro _ _ _ h; exact h) (Or.inl ⟨by rfl, ?_⟩) (by assumption) ?_
            rotate_left
            ·(intro w hSw; (try dsimp only at hSw); go_simp; all_goals with_reducible rfl)
            (try simp only [Act.put, List.setIfInBounds_toArray, List.set_cons_zero, List.set_cons_succ])
            refine wpAnyH_ready (rs := [12, 13]) (by kernel_rfl) (by simp) ?_
            refine (AllReadyH.cons (by rw [List.getElem?_toArray]; rfl) (fun K hK => ?_) (AllReadyH.cons (by rw [List.getElem?_toArray]; rfl) (fun K hK => ?_) AllReadyH.nil))
            ·go_simp
             clear n0 n1 n2 n3 n4 n5 n6; (have bb := Below.nw v4 (.cells #[.int .i64 0, .int .i64 0, .slice none 0 0] 39)); (have X := Bx3.new v4 (.int .i64 0) (.int .i64 0) (.slice none 0 0) 39); (have h6t : bt < v4.heap.size := T.1.1); (have h6p : v4.heap.size ≠ p := by omega); (have H6 : ∀ g, (Value.slice A n c).ownBlock = some g → g ≠ v4.heap.size := fun g hg => by have := (World.ownsRow.lt T.2.1 g hg).2; omega); (have G6 : ∀ g, (Value.slice a' (n + 1) c').ownBlock = some g → g ≠ v4.heap.size := fun g hg => by have := (World.ownsRow.lt O g hg).2; omega); (replace O := own_belK' O bb); (replace T := T.below bb); clear bb; generalize v4.heap.size = j6 at *; generalize v4.alloc (.cells #[.int .i64 0, .int .i64 0, .slice none 0 0] 39) = v5 at *; (obtain ⟨n0, n1, n2, n3, n4, n5, n6⟩ := id T.1); (obtain ⟨y0, y1, y2, y3, y4, y5, y6⟩ := id X)
             refine hK.out _ _ ?_ (fun hHeld => ?_)
             ·first | exact ⟨n1, n2, n3⟩ | (simp (maxDischargeDepth := 6) [go_sem, *]; done)
             clear hK K
             (try simp only [Act.put, List.setIfInBounds_toArray, List.set_cons_zero, List.set_cons_succ])
             refine wpAnyH_ready (rs := [13]) (by kernel_rfl) (by simp) ?_
             refine (AllReadyH.cons (by rw [List.getElem?_toArray]; rfl) (fun K hK => ?_) AllReadyH.nil)
             go_simp
             clear n0 n1 n2 n3 n4 n5 n6 y0 y1 y2 y3 y4 y5 y6; (have bb := Below.nw v5 (.cells #[.int .i64 0, .int .i64 0, .int .i64 0, .int .i64 0] 43)); (have Y := Bf4.new v5 0 0 0 0 43); (have h7t : bt < v5.heap.size := T.1.1); (have h7p : v5.heap.size ≠ p := by omega); (have H7 : ∀ g, (Value.slice A n c).ownBlock = some g → g ≠ v5.heap.size := fun g hg => by have := (World.ownsRow.lt T.2.1 g hg).2; omega); (have h67 : j6 < v5.heap.size := X.1); (replace X := X.below bb); (have G7 : ∀ g, (Value.slice a' (n + 1) c').ownBlock = some g → g ≠ v5.heap.size := fun g hg => by have := (World.ownsRow.lt O g hg).2; omega); (replace O := own_belK' O bb); (replace T := T.below bb); clear bb; generalize v5.heap.size = j7 at *; generalize v5.alloc (.cells #[.int .i64 0, .int .i64 0, .int .i64 0, .int .i64 0] 43) = v6 at *; (obtain ⟨n0, n1, n2, n3, n4, n5, n6⟩ := id T.1); (obtain ⟨y0, y1, y2, y3, y4, y5, y6⟩ := id X); (obtain ⟨⟨z0, z1, z2, z3, z4⟩, z5, z6, z7, z8⟩ := id Y)
             refine hK.out _ _ ?_ (fun hHeld => ?_)
             ·first | exact ⟨n1, n2, n3⟩ | (simp (maxDischargeDepth := 6) [go_sem, *]; done)
             clear hK K
             (try simp only [Act.put, List.setIfInBounds_toArray, List.set_cons_zero, List.set_cons_succ])
             refine wpAnyH_ready (rs := [14]) (by kernel_rfl) (by simp) ?_
             refine (AllReadyH.cons (by rw [List.getElem?_toArray]; rfl) (fun K hK => ?_) AllReadyH.nil)
             go_simp
             clear n0 n1 n2 n3 n4 n5 n6 y0 y1 y2 y3 y4 y5 y6 z0 z1 z2 z3 z4 z5 z6 z7 z8; (have bb : But j6 v6 (((v6.setCell ⟨j6, 0, none⟩ (.int .i64 ep)).setCell ⟨j6, 1, none⟩ (.int .i64 (us + 1))).setCell ⟨j6, 2, none⟩ (.slice a' (n + 1) c')) := put3_but _ _ _ _ _); (have cc : CurOk (((v6.setCell ⟨j6, 0, none⟩ (.int .i64 ep)).setCell ⟨j6, 1, none⟩ (.int .i64 (us + 1))).setCell ⟨j6, 2, none⟩ (.slice a' (n + 1) c')) B p := CurOk.put3 T.2.2.1 h6p (by omega) _ _ _); (replace T := T.other bb cc h6t hbt H6); (replace X : Bx3 (((v6.setCell ⟨j6, 0, none⟩ (.int .i64 ep)).setCell ⟨j6, 1, none⟩ (.int .i64 (us + 1))).setCell ⟨j6, 2, none⟩ (.slice a' (n + 1) c')) j6 (.int .i64 ep) (.int .i64 (us + 1)) (.slice a' (n + 1) c') := X.set _ _ _); (replace Y := Y.but bb (by omega)); (replace O := own_neK O bb G6); clear bb cc; generalize (((v6.setCell ⟨j6, 0, none⟩ (.int .i64 ep)).setCell ⟨j6, 1, none⟩ (.int .i64 (us + 1))).setCell ⟨j6, 2, none⟩ (.slice a' (n + 1) c')) = v7 at *; (obtain ⟨n0, n1, n2, n3, n4, n5, n6⟩ := id T.1); (obtain ⟨y0, y1, y2, y3, y4, y5, y6⟩ := id X); (obtain ⟨⟨z0, z1, z2, z3, z4⟩, z5, z6, z7, z8⟩ := id Y)
             refine hK.out _ _ ?_ (fun hHeld => ?_)
             ·first | exact ⟨n1, n2, n3⟩ | (simp (maxDischargeDepth := 6) [go_sem, *]; done)
             clear hK K
             (try simp only [Act.put, List.setIfInBounds_toArray, List.set_cons_zero, List.set_cons_succ])
             refine wpAnyH_ready (rs := [15]) (by kernel_rfl) (by simp) ?_
             refine (AllReadyH.cons (by rw [List.getElem?_toArray]; rfl) (fun K hK => ?_) AllReadyH.nil)
             go_simp
             clear n0 n1 n2 n3 n4 n5 n6 y0 y1 y2 y3 y4 y5 y6 z0 z1 z2 z3 z4 z5 z6 z7 z8; (have bb : But j7 v7 ((((v7.setCell ⟨j7, 0, none⟩ (.int .i64 nn)).setCell ⟨j7, 1, none⟩ (.int .i64 x1)).setCell ⟨j7, 2, none⟩ (.int .i64 x2)).setCell ⟨j7, 3, none⟩ (.int .i64 (IntKind.i64.wrap (1 + x3)))) := put4_but _ _ _ _ _ _); (have cc : CurOk ((((v7.setCell ⟨j7, 0, none⟩ (.int .i64 nn)).setCell ⟨j7, 1, none⟩ (.int .i64 x1)).setCell ⟨j7, 2, none⟩ (.int .i64 x2)).setCell ⟨j7, 3, none⟩ (.int .i64 (IntKind.i64.wrap (1 + x3)))) B p := CurOk.put4 T.2.2.1 h7p (by omega) _ _ _ _); (replace T := T.other bb cc h7t hbt H7); (replace X := X.but bb (by omega)); (replace O := own_neK O bb G7); clear bb cc Y; generalize ((((v7.setCell ⟨j7, 0, none⟩ (.int .i64 nn)).setCell ⟨j7, 1, none⟩ (.int .i64 x1)).setCell ⟨j7, 2, none⟩ (.int .i64 x2)).setCell ⟨j7, 3, none⟩ (.int .i64 (IntKind.i64.wrap (1 + x3)))) = v8 at *; (obtain ⟨n0, n1, n2, n3, n4, n5, n6⟩ := id T.1); (obtain ⟨y0, y1, y2, y3, y4, y5, y6⟩ := id X)
             refine hK.out _ _ ?_ (fun hHeld => ?_)
             ·first | exact ⟨n1, n2, n3⟩ | (simp (maxDischargeDepth := 6) [go_sem, *]; done)
             clear hK K
             (try simp only [Act.put, List.setIfInBounds_toArray, List.set_cons_zero, List.set_cons_succ])
             refine wpAnyH_done (by kernel_rfl) ?_ _
             (try go_wp2_with fail)
             go_meet
             case rel => exact ⟨j6, a', c', x1, x2, _, rfl, by omega, ⟨x1l, x1h⟩, X, O, T⟩
            ·go_simp
             clear n0 n1 n2 n3 n4 n5 n6; (have bb := Below.nw v4 (.cells #[.int .i64 0, .int .i64 0, .int .i64 0, .int .i64 0] 43)); (have Y := Bf4.new v4 0 0 0 0 43); (have h7t : bt < v4.heap.size := T.1.1); (have h7p : v4.heap.size ≠ p := by omega); (have H7 : ∀ g, (Value.slice A n c).ownBlock = some g → g ≠ v4.heap.size := fun g hg => by have := (World.ownsRow.lt T.2.1 g hg).2; omega); (have G7 : ∀ g, (Value.slice a' (n + 1) c').ownBlock = some g → g ≠ v4.heap.size := fun g hg => by have := (World.ownsRow.lt O g hg).2; omega); (replace O := own_belK' O bb); (replace T := T.below bb); clear bb; generalize v4.heap.size = j7 at *; generalize v4.alloc (.cells #[.int .i64 0, .int .i64 0, .int .i64 0, .int .i64 0] 43) = v5 at *; (obtain ⟨n0, n1, n2, n3, n4, n5, n6⟩ := id T.1); (obtain ⟨⟨z0, z1, z2, z3, z4⟩, z5, z6, z7, z8⟩ := id Y)
             refine hK.out _ _ ?_ (fun hHeld => ?_)
             ·first | exact ⟨n1, n2, n3⟩ | (simp (maxDischargeDepth := 6) [go_sem, *]; done)
             clear hK K
             (try simp only [Act.put, List.setIfInBounds_toArray, List.set_cons_zero, List.set_cons_succ])
             refine wpAnyH_ready (rs := [12]) (by kernel_rfl) (by simp) ?_
             refine (AllReadyH.cons (by rw [List.getElem?_toArray]; rfl) (fun K hK => ?_) AllReadyH.nil)
             go_simp
             clear n0 n1 n2 n3 n4 n5 n6 z0 z1 z2 z3 z4 z5 z6 z7 z8; (have bb := Below.nw v5 (.cells #[.int .i64 0, .int .i64 0, .slice none 0 0] 39)); (have X := Bx3.new v5 (.int .i64 0) (.int .i64 0) (.slice none 0 0) 39); (have h6t : bt < v5.heap.size := T.1.1); (have h6p : v5.heap.size ≠ p := by omega); (have H6 : ∀ g, (Value.slice A n c).ownBlock = some g → g ≠ v5.heap.size := fun g hg => by have := (World.ownsRow.lt T.2.1 g hg).2; omega); (have h67 : j7 < v5.heap.size := Y.1.1); (replace Y := Y.below bb); (have G6 : ∀ g, (Value.slice a' (n + 1) c').ownBlock = some g → g ≠ v5.heap.size := fun g hg => by have := (World.ownsRow.lt O g hg).2; omega); (replace O := own_belK' O bb); (replace T := T.below bb); clear bb; generalize v5.heap.size = j6 at *; generalize v5.alloc (.cells #[.int .i64 0, .int .i64 0, .slice none 0 0] 39) = v6 at *; (obtain ⟨n0, n1, n2, n3, n4, n5, n6⟩ := id T.1); (obtain ⟨y0, y1, y2, y3, y4, y5, y6⟩ := id X); (obtain ⟨⟨z0, z1, z2, z3, z4⟩, z5, z6, z7, z8⟩ := id Y)
             refine hK.out _ _ ?_ (fun hHeld => ?_)
             ·first | exact ⟨n1, n2, n3⟩ | (simp (maxDischargeDepth := 6) [go_sem, *]; done)
             clear hK K
             (try simp only [Act.put, List.setIfInBounds_toArray, List.set_cons_zero, List.set_cons_succ])
             refine wpAnyH_ready (rs := [14]) (by kernel_rfl) (by simp) ?_
             refine (AllReadyH.cons (by rw [List.getElem?_toArray]; rfl) (fun K hK => ?_) AllReadyH.nil)
             go_simp
             clear n0 n1 n2 n3 n4 n5 n6 y0 y1 y2 y3 y4 y5 y6 z0 z1 z2 z3 z4 z5 z6 z7 z8; (have bb : But j6 v6 (((v6.setCell ⟨j6, 0, none⟩ (.int .i64 ep)).setCell ⟨j6, 1, none⟩ (.int .i64 (us + 1))).setCell ⟨j6, 2, none⟩ (.slice a' (n + 1) c')) := put3_but _ _ _ _ _); (have cc : CurOk (((v6.setCell ⟨j6, 0, none⟩ (.int .i64 ep)).setCell ⟨j6, 1, none⟩ (.int .i64 (us + 1))).setCell ⟨j6, 2, none⟩ (.slice a' (n + 1) c')) B p := CurOk.put3 T.2.2.1 h6p (by omega) _ _ _); (replace T := T.other bb cc h6t hbt H6); (replace X : Bx3 (((v6.setCell ⟨j6, 0, none⟩ (.int .i64 ep)).setCell ⟨j6, 1, none⟩ (.int .i64 (us + 1))).setCell ⟨j6, 2, none⟩ (.slice a' (n + 1) c')) j6 (.int .i64 ep) (.int .i64 (us + 1)) (.slice a' (n + 1) c') := X.set _ _ _); (replace Y := Y.but bb (by omega)); (replace O := own_neK O bb G6); clear bb cc; generalize (((v6.setCell ⟨j6, 0, none⟩ (.int .i64 ep)).setCell ⟨j6, 1, none⟩ (.int .i64 (us + 1))).setCell ⟨j6, 2, none⟩ (.slice a' (n + 1) c')) = v7 at *; (obtain ⟨n0, n1, n2, n3, n4, n5, n6⟩ := id T.1); (obtain ⟨y0, y1, y2, y3, y4, y5, y6⟩ := id X); (obtain ⟨⟨z0, z1, z2, z3, z4⟩, z5, z6, z7, z8⟩ := id Y)
             refine hK.out _ _ ?_ (fun hHeld => ?_)
             ·first | exact ⟨n1, n2, n3⟩ | (simp (maxDischargeDepth := 6) [go_sem, *]; done)
             clear hK K
             (try simp only [Act.put, List.setIfInBounds_toArray, List.set_cons_zero, List.set_cons_succ])
             refine wpAnyH_ready (rs := [15]) (by kernel_rfl) (by simp) ?_
             refine (AllReadyH.cons (by rw [List.getElem?_toArray]; rfl) (fun K hK => ?_) AllReadyH.nil)
             go_simp
             clear n0 n1 n2 n3 n4 n5 n6 y0 y1 y2 y3 y4 y5 y6 z0 z1 z2 z3 z4 z5 z6 z7 z8; (have bb : But j7 v7 ((((v7.setCell ⟨j7, 0, none⟩ (.int .i64 nn)).setCell ⟨j7, 1, none⟩ (.int .i64 x1)).setCell ⟨j7, 2, none⟩ (.int .i64 x2)).setCell ⟨j7, 3, none⟩ (.int .i64 (IntKind.i64.wrap (1 + x3)))) := put4_but _ _ _ _ _ _); (have cc : CurOk ((((v7.setCell ⟨j7, 0, none⟩ (.int .i64 nn)).setCell ⟨j7, 1, none⟩ (.int .i64 x1)).setCell ⟨j7, 2, none⟩ (.int .i64 x2)).setCell ⟨j7, 3, none⟩ (.int .i64 (IntKind.i64.wrap (1 + x3)))) B p := CurOk.put4 T.2.2.1 h7p (by omega) _ _ _ _); (replace T := T.other bb cc h7t hbt H7); (replace X := X.but bb (by omega)); (replace O := own_neK O bb G7); clear bb cc Y; generalize ((((v7.setCell ⟨j7, 0, none⟩ (.int .i64 nn)).setCell ⟨j7, 1, none⟩ (.int .i64 x1)).setCell ⟨j7, 2, none⟩ (.int .i64 x2)).setCell ⟨j7, 3, none⟩ (.int .i64 (IntKind.i64.wrap (1 + x3)))) = v8 at *; (obtain ⟨n0, n1, n2, n3, n4, n5, n6⟩ := id T.1); (obtain ⟨y0, y1, y2, y3, y4, y5, y6⟩ := id X)
             refine hK.out _ _ ?_ (fun hHeld => ?_)
             ·first | exact ⟨n1, n2, n3⟩ | (simp (maxDischargeDepth := 6) [go_sem, *]; done)
             clear hK K
             (try simp only [Act.put, List.setIfInBounds_toArray, List.set_cons_zero, List.set_cons_succ])
             refine wpAnyH_done (by kernel_rfl) ?_ _
             (try go_wp2_with fail)
             go_meet
             case rel => exact ⟨j6, a', c', x1, x2, _, rfl, by omega, ⟨x1l, x1h⟩, X, O, T⟩
           ·go_simp
            clear n0 n1 n2 n3 n4 n5 n6; (have bb := Below.nw v3 (.cells #[.int .i64 0, .int .i64 0, .slice none 0 0] 39)); (have X := Bx3.new v3 (.int .i64 0) (.int .i64 0) (.slice none 0 0) 39); (have h6t : bt < v3.heap.size := T.1.1); (have h6p : v3.heap.size ≠ p := by omega); (have H6 : ∀ g, (Value.slice A n c).ownBlock = some g → g ≠ v3.heap.size := fun g hg => by have := (World.ownsRow.lt T.2.1 g hg).2; omega); (replace T := T.below bb); clear bb; generalize v3.heap.size = j6 at *; generalize v3.alloc (.cells #[.int .i64 0, .int .i64 0, .slice none 0 0] 39) = v4 at *; (obtain ⟨n0, n1, n2, n3, n4, n5, n6⟩ := id T.1); (obtain ⟨y0, y1, y2, y3, y4, y5, y6⟩ := id X)
            refine hK.out _ _ ?_ (fun hHeld => ?_)
            ·first | exact ⟨n1, n2, n3⟩ | (simp (maxDischargeDepth := 6) [go_sem, *]; done)
            clear hK K
            (try simp only [Act.put, List.setIfInBounds_toArray, List.set_cons_zero, List.set_cons_succ])
            refine wpAnyH_ready (rs := [8, 13]) (by kernel_rfl) (by simp) ?_
            refine (AllReadyH.cons (by rw [List.getElem?_toArray]; rfl) (fun K hK => ?_) (AllReadyH.cons (by rw [List.getElem?_toArray]; rfl) (fun K hK => ?_) AllReadyH.nil))
            ·go_simp
             refine (l7Put_opt ep us _ _ _ nn A n c M _ (by omega) (FromsO.own T.2.1) hep hus HNN.out).mono ?_; rintro e v5 ⟨a', c', rfl, O, bb⟩; clear n0 n1 n2 n3 n4 n5 n6 y0 y1 y2 y3 y4 y5 y6; (have hsz : w.heap.size + 1 ≤ v4.heap.size := Nat.le_of_lt (Nat.lt_of_le_of_lt hbt T.1.1)); (replace T := T.below bb); (have G6 : ∀ g, (Value.slice a' (n + 1) c').ownBlock = some g → g ≠ j6 := fun g hg => by have := (World.ownsRow.lt O g hg).1; have := X.1; omega); (replace X := X.below bb); (replace O := ownK_le O hsz); clear bb hsz; (obtain ⟨n0, n1, n2, n3, n4, n5, n6⟩ := id T.1); (obtain ⟨y0, y1, y2, y3, y4, y5, y6⟩ := id X)
             (try go_wp2_with fail)
             refine hK.out _ _ ?_ (fun hHeld => ?_)
             ·first | exact ⟨n1, n2, n3⟩ | (simp (maxDischargeDepth := 6) [go_sem, *]; done)
             clear hK K
             (try simp only [Act.put, List.setIfInBounds_toArray, List.set_cons_zero, List.set_cons_succ])
             refine wpAnyH_take (i := 9) (v := ?_) (by rw [List.getElem?_toArray]; rfl) (by kernel_rfl) (by kernel_rfl) (by kernel_rfl) (by intro _ _ _ h; exact h) (Or.inl ⟨by rfl, ?_⟩) (by assumption) ?_
             rotate_left
             ·(intro w hSw; (try dsimp only at hSw); go_simp; all_goals with_reducible rfl)
             (try simp only [Act.put, List.setIfInBounds_toArray, List.set_cons_zero, List.set_cons_succ])
             refine wpAnyH_take (i := 10) (v := ?_) (by rw [List.getElem?_toArray]; rfl) (by kernel_rfl) (by kernel_rfl) (by kernel_rfl) (by intro _ _ _ h; exact h) (Or.inl ⟨by rfl, ?_⟩) (by assumption) ?_
             rotate_left
             ·(intro w hSw; (try dsimp only at hSw); go_simp; all_goals with_reducible rfl)
             (try simp only [Act.put, List.setIfInBounds_toArray, List.set_cons_zero, List.set_cons_succ])
             refine wpAnyH_take (i := 11) (v := ?_) (by rw [List.getElem?_toArray]; rfl) (by kernel_rfl) (by kernel_rfl) (by kernel_rfl) (by intro _ _ _ h; exact h) (Or.inl ⟨by rfl, ?_⟩) (by assumption) ?_
             rotate_left
             ·(intro w hSw; (try dsimp only at hSw); go_simp; all_goals with_reducible rfl)
             (try simp only [Act.put, List.setIfInBounds_toArray, List.set_cons_zero, List.set_cons_succ])
             refine wpAnyH_ready (rs := [13]) (by kernel_rfl) (by simp) ?_
             refine (AllReadyH.cons (by rw [List.getElem?_toArray]; rfl) (fun K hK => ?_) AllReadyH.nil)
             go_simp
             clear n0 n1 n2 n3 n4 n5 n6 y0 y1 y2 y3 y4 y5 y6; (have bb := Below.nw v5 (.cells #[.int .i64 0, .int .i64 0, .int .i64 0, .int .i64 0] 43)); (have Y := Bf4.new v5 0 0 0 0 43); (have h7t : bt < v5.heap.size := T.1.1); (have h7p : v5.heap.size ≠ p := by omega); (have H7 : ∀ g, (Value.slice A n c).ownBlock = some g → g ≠ v5.heap.size := fun g hg => by have := (World.ownsRow.lt T.2.1 g hg).2; omega); (have h67 : j6 < v5.heap.size := X.1); (replace X := X.below bb); (have G7 : ∀ g, (Value.slice a' (n + 1) c').ownBlock = some g → g ≠ v5.heap.size := fun g hg => by have := (World.ownsRow.lt O g hg).2; omega); (replace O := own_belK' O bb); (replace T := T.below bb); clear bb; generalize v5.heap.size = j7 at *; generalize v5.alloc (.cells #[.int .i64 0, .int .i64 0, .int .i64 0, .int .i64 0] 43) = v6 at *; (obtain ⟨n0, n1, n2, n3, n4, n5, n6⟩ := id T.1); (obtain ⟨y0, y1, y2, y3, y4, y5, y6⟩ := id X); (obtain ⟨⟨z0, z1, z2, z3, z4⟩, z5, z6, z7, z8⟩ := id Y)
             refine hK.out _ _ ?_ (fun hHeld => ?_)
             ·first | exact ⟨n1, n2, n3⟩ | (simp (maxDischargeDepth := 6) [go_sem, *]; done)
             clear hK K
             (try simp only [Act.put, List.setIfInBounds_toArray, List.set_cons_zero, List.set_cons_succ])
             refine wpAnyH_ready (rs := [14]) (by kernel_rfl) (by simp) ?_
             refine (AllReadyH.cons (by rw [List.getElem?_toArray]; rfl) (fun K hK => ?_) AllReadyH.nil)
             go_simp
             clear n0 n1 n2 n3 n4 n5 n6 y0 y1 y2 y3 y4 y5 y6 z0 z1 z2 z3 z4 z5 z6 z7 z8; (have bb : But j6 v6 (((v6.setCell ⟨j6, 0, none⟩ (.int .i64 ep)).setCell ⟨j6, 1, none⟩ (.int .i64 (us + 1))).setCell ⟨j6, 2, none⟩ (.slice a' (n + 1) c')) := put3_but _ _ _ _ _); (have cc : CurOk (((v6.setCell ⟨j6, 0, none⟩ (.int .i64 ep)).setCell ⟨j6, 1, none⟩ (.int .i64 (us + 1))).setCell ⟨j6, 2, none⟩ (.slice a' (n + 1) c')) B p := CurOk.put3 T.2.2.1 h6p (by omega) _ _ _); (replace T := T.other bb cc h6t hbt H6); (replace X : Bx3 (((v6.setCell ⟨j6, 0, none⟩ (.int .i64 ep)).setCell ⟨j6, 1, none⟩ (.int .i64 (us + 1))).setCell ⟨j6, 2, none⟩ (.slice a' (n + 1) c')) j6 (.int .i64 ep) (.int .i64 (us + 1)) (.slice a' (n + 1) c') := X.set _ _ _); (replace Y := Y.but bb (by omega)); (replace O := own_neK O bb G6); clear bb cc; generalize (((v6.setCell ⟨j6, 0, none⟩ (.int .i64 ep)).setCell ⟨j6, 1, none⟩ (.int .i64 (us + 1))).setCell ⟨j6, 2, none⟩ (.slice a' (n + 1) c')) = v7 at *; (obtain ⟨n0, n1, n2, n3, n4, n5, n6⟩ := id T.1); (obtain ⟨y0, y1, y2, y3, y4, y5, y6⟩ := id X); (obtain ⟨⟨z0, z1, z2, z3, z4⟩, z5, z6, z7, z8⟩ := id Y)
             refine hK.out _ _ ?_ (fun hHeld => ?_)
             ·first | exact ⟨n1, n2, n3⟩ | (simp (maxDischargeDepth := 6) [go_sem, *]; done)
             clear hK K
             (try simp only [Act.put, List.setIfInBounds_toArray, List.set_cons_zero, List.set_cons_succ])
             refine wpAnyH_ready (rs := [15]) (by kernel_rfl) (by simp) ?_
             refine (AllReadyH.cons (by rw [List.getElem?_toArray]; rfl) (fun K hK => ?_) AllReadyH.nil)
             go_simp
             clear n0 n1 n2 n3 n4 n5 n6 y0 y1 y2 y3 y4 y5 y6 z0 z1 z2 z3 z4 z5 z6 z7 z8; (have bb : But j7 v7 ((((v7.setCell ⟨j7, 0, none⟩ (.int .i64 nn)).setCell ⟨j7, 1, none⟩ (.int .i64 x1)).setCell ⟨j7, 2, none⟩ (.int .i64 x2)).setCell ⟨j7, 3, none⟩ (.int .i64 (IntKind.i64.wrap (1 + x3)))) := put4_but _ _ _ _ _ _); (have cc : CurOk ((((v7.setCell ⟨j7, 0, none⟩ (.int .i64 nn)).setCell ⟨j7, 1, none⟩ (.int .i64 x1)).setCell ⟨j7, 2, none⟩ (.int .i64 x2)).setCell ⟨j7, 3, none⟩ (.int .i64 (IntKind.i64.wrap (1 + x3)))) B p := CurOk.put4 T.2.2.1 h7p (by omega) _ _ _ _); (replace T := T.other bb cc h7t hbt H7); (replace X := X.but bb (by omega)); (replace O := own_neK O bb G7); clear bb cc Y; generalize ((((v7.setCell ⟨j7, 0, none⟩ (.int .i64 nn)).setCell ⟨j7, 1, none⟩ (.int .i64 x1)).setCell ⟨j7, 2, none⟩ (.int .i64 x2)).setCell ⟨j7, 3, none⟩ (.int .i64 (IntKind.i64.wrap (1 + x3)))) = v8 at *; (obtain ⟨n0, n1, n2, n3, n4, n5, n6⟩ := id T.1); (obtain ⟨y0, y1, y2, y3, y4, y5, y6⟩ := id X)
             refine hK.out _ _ ?_ (fun hHeld => ?_)
             ·first | exact ⟨n1, n2, n3⟩ | (simp (maxDischargeDepth := 6) [go_sem, *]; done)
             clear hK K
             (try simp only [Act.put, List.setIfInBounds_toArray, List.set_cons_zero, List.set_cons_succ])
             refine wpAnyH_done (by kernel_rfl) ?_ _
             (try go_wp2_with fail)
             go_meet
             case rel => exact ⟨j6, a', c', x1, x2, _, rfl, by omega, ⟨x1l, x1h⟩, X, O, T⟩
            ·go_simp
             clear n0 n1 n2 n3 n4 n5 n6 y0 y1 y2 y3 y4 y5 y6; (have bb := Below.nw v4 (.cells #[.int .i64 0, .int .i64 0, .int .i64 0, .int .i64 0] 43)); (have Y := Bf4.new v4 0 0 0 0 43); (have h7t : bt < v4.heap.size := T.1.1); (have h7p : v4.heap.size ≠ p := by omega); (have H7 : ∀ g, (Value.slice A n c).ownBlock = some g → g ≠ v4.heap.size := fun g hg => by have := (World.ownsRow.lt T.2.1 g hg).2; omega); (have h67 : j6 < v4.heap.size := X.1); (replace X := X.below bb); (replace T := T.below bb); clear bb; generalize v4.heap.size = j7 at *; generalize v4.alloc (.cells #[.int .i64 0, .int .i64 0, .int .i64 0, .int .i64 0] 43) = v5 at *; (obtain ⟨n0, n1, n2, n3, n4, n5, n6⟩ := id T.1); (obtain ⟨y0, y1, y2, y3, y4, y5, y6⟩ := id X); (obtain ⟨⟨z0, z1, z2, z3, z4⟩, z5, z6, z7, z8⟩ := id Y)
             refine hK.out _ _ ?_ (fun hHeld => ?_)
             ·first | exact ⟨n1, n2, n3⟩ | (simp (maxDischargeDepth := 6) [go_sem, *]; done)
             clear hK K
             (try simp only [Act.put, List.setIfInBounds_toArray, List.set_cons_zero, List.set_cons_succ])
             refine wpAnyH_ready (rs := [8]) (by kernel_rfl) (by simp) ?_
             refine (AllReadyH.cons (by rw [List.getElem?_toArray]; rfl) (fun K hK => ?_) AllReadyH.nil)
             go_simp
             refine (l7Put_opt ep us _ _ _ nn A n c M _ (by omega) (FromsO.own T.2.1) hep hus HNN.out).mono ?_; rintro e v6 ⟨a', c', rfl, O, bb⟩; clear n0 n1 n2 n3 n4 n5 n6 y0 y1 y2 y3 y4 y5 y6 z0 z1 z2 z3 z4 z5 z6 z7 z8; (have hsz : w.heap.size + 1 ≤ v5.heap.size := Nat.le_of_lt (Nat.lt_of_le_of_lt hbt T.1.1)); (replace T := T.below bb); (have G6 : ∀ g, (Value.slice a' (n + 1) c').ownBlock = some g → g ≠ j6 := fun g hg => by have := (World.ownsRow.lt O g hg).1; have := X.1; omega); (replace X := X.below bb); (have G7 : ∀ g, (Value.slice a' (n + 1) c').ownBlock = some g → g ≠ j7 := fun g hg => by have := (World.ownsRow.lt O g hg).1; have := Y.1.1; omega); (replace Y := Y.below bb); (replace O := ownK_le O hsz); clear bb hsz; (obtain ⟨n0, n1, n2, n3, n4, n5, n6⟩ := id T.1); (obtain ⟨y0, y1, y2, y3, y4, y5, y6⟩ := id X); (obtain ⟨⟨z0, z1, z2, z3, z4⟩, z5, z6, z7, z8⟩ := id Y)
             (try go_wp2_with fail)
             refine hK.out _ _ ?_ (fun hHeld => ?_)
             ·first | exact ⟨n1, n2, n3⟩ | (simp (maxDischargeDepth := 6) [go_sem, *]; done)
             clear hK K
             (try simp only [Act.put, List.setIfInBounds_toArray, List.set_cons_zero, List.set_cons_succ])
             refine wpAnyH_take (i := 9) (v := ?_) (by rw [List.getElem?_toArray]; rfl) (by kernel_rfl) (by kernel_rfl) (by kernel_rfl) (by intro _ _ _ h; exact h) (Or.inl ⟨by rfl, ?_⟩) (by assumption) ?_
             rotate_left
             ·(intro w hSw; (try dsimp only at hSw); go_simp; all_goals with_reducible rfl)
             (try simp only [Act.put, List.setIfInBounds_toArray, List.set_cons_zero, List.set_cons_succ])
             refine wpAnyH_take (i := 10) (v := ?_) (by rw [List.getElem?_toArray]; rfl) (by kernel_rfl) (by kernel_rfl) (by kernel_rfl) (by intro _ _ _ h; exact h) (Or.inl ⟨by rfl, ?_⟩) (by assumption) ?_
             rotate_left
             ·(intro w hSw; (try dsimp only at hSw); go_simp; all_goals with_reducible rfl)
             (try simp only [Act.put, List.setIfInBounds_toArray, List.set_cons_zero, List.set_cons_succ])
             refine wpAnyH_take (i := 11) (v := ?_) (by rw [List.getElem?_toArray]; rfl) (by kernel_rfl) (by kernel_rfl) (by kernel_rfl) (by intro _ _ _ h; exact h) (Or.inl ⟨by rfl, ?_⟩) (by assumption) ?_
             rotate_left
             ·(intro w hSw; (try dsimp only at hSw); go_simp; all_goals with_reducible rfl)
             (try simp only [Act.put, List.setIfInBounds_toArray, List.set_cons_zero, List.set_cons_succ])
             refine wpAnyH_ready (rs := [14]) (by kernel_rfl) (by simp) ?_
             refine (AllReadyH.cons (by rw [List.getElem?_toArray]; rfl) (fun K hK => ?_) AllReadyH.nil)
             go_simp
             clear n0 n1 n2 n3 n4 n5 n6 y0 y1 y2 y3 y4 y5 y6 z0 z1 z2 z3 z4 z5 z6 z7 z8; (have bb : But j6 v6 (((v6.setCell ⟨j6, 0, none⟩ (.int .i64 ep)).setCell ⟨j6, 1, none⟩ (.int .i64 (us + 1))).setCell ⟨j6, 2, none⟩ (.slice a' (n + 1) c')) := put3_but _ _ _ _ _); (have cc : CurOk (((v6.setCell ⟨j6, 0, none⟩ (.int .i64 ep)).setCell ⟨j6, 1, none⟩ (.int .i64 (us + 1))).setCell ⟨j6, 2, none⟩ (.slice a' (n + 1) c')) B p := CurOk.put3 T.2.2.1 h6p (by omega) _ _ _); (replace T := T.other bb cc h6t hbt H6); (replace X : Bx3 (((v6.setCell ⟨j6, 0, none⟩ (.int .i64 ep)).setCell ⟨j6, 1, none⟩ (.int .i64 (us + 1))).setCell ⟨j6, 2, none⟩ (.slice a' (n + 1) c')) j6 (.int .i64 ep) (.int .i64 (us + 1)) (.slice a' (n + 1) c') := X.set _ _ _); (replace Y := Y.but bb (by omega)); (replace O := own_neK O bb G6); clear bb cc; generalize (((v6.setCell ⟨j6, 0, none⟩ (.int .i64 ep)).setCell ⟨j6, 1, none⟩ (.int .i64 (us + 1))).setCell ⟨j6, 2, none⟩ (.slice a' (n + 1) c')) = v7 at *; (obtain ⟨n0, n1, n2, n3, n4, n5, n6⟩ := id T.1); (obtain ⟨y0, y1, y2, y3, y4, y5, y6⟩ := id X); (obtain ⟨⟨z0, z1, z2, z3, z4⟩, z5, z6, z7, z8⟩ := id Y)
             refine hK.out _ _ ?_ (fun hHeld => ?_)
             ·first | exact ⟨n1, n2, n3⟩ | (simp (maxDischargeDepth := 6) [go_sem, *]; done)
             clear hK K
             (try simp only [Act.put, List.setIfInBounds_toArray, List.set_cons_zero, List.set_cons_succ])
             refine wpAnyH_ready (rs := [15]) (by kernel_rfl) (by simp) ?_
             refine (AllReadyH.cons (by rw [List.getElem?_toArray]; rfl) (fun K hK => ?_) AllReadyH.nil)
             go_simp
             clear n0 n1 n2 n3 n4 n5 n6 y0 y1 y2 y3 y4 y5 y6 z0 z1 z2 z3 z4 z5 z6 z7 z8; (have bb : But j7 v7 ((((v7.setCell ⟨j7, 0, none⟩ (.int .i64 nn)).setCell ⟨j7, 1, none⟩ (.int .i64 x1)).setCell ⟨j7, 2, none⟩ (.int .i64 x2)).setCell ⟨j7, 3, none⟩ (.int .i64 (IntKind.i64.wrap (1 + x3)))) := put4_but _ _ _ _ _ _); (have cc : CurOk ((((v7.setCell ⟨j7, 0, none⟩ (.int .i64 nn)).setCell ⟨j7, 1, none⟩ (.int .i64 x1)).setCell ⟨j7, 2, none⟩ (.int .i64 x2)).setCell ⟨j7, 3, none⟩ (.int .i64 (IntKind.i64.wrap (1 + x3)))) B p := CurOk.put4 T.2.2.1 h7p (by omega) _ _ _ _); (replace T := T.other bb cc h7t hbt H7); (replace X := X.but bb (by omega)); (replace O := own_neK O bb G7); clear bb cc Y; generalize ((((v7.setCell ⟨j7, 0, none⟩ (.int .i64 nn)).setCell ⟨j7, 1, none⟩ (.int .i64 x1)).setCell ⟨j7, 2, none⟩ (.int .i64 x2)).setCell ⟨j7, 3, none⟩ (.int .i64 (IntKind.i64.wrap (1 + x3)))) = v8 at *; (obtain ⟨n0, n1, n2, n3, n4, n5, n6⟩ := id T.1); (obtain ⟨y0, y1, y2, y3, y4, y5, y6⟩ := id X)
             refine hK.out _ _ ?_ (fun hHeld => ?_)
             ·first | exact ⟨n1, n2, n3⟩ | (simp (maxDischargeDepth := 6) [go_sem, *]; done)
             clear hK K
             (try simp only [Act.put, List.setIfInBounds_toArray, List.set_cons_zero, List.set_cons_succ])
             refine wpAnyH_done (by kernel_rfl) ?_ _
             (try go_wp2_with fail)
             go_meet
             case rel => exact ⟨j6, a', c', x1, x2, _, rfl, by omega, ⟨x1l, x1h⟩, X, O, T⟩
           ·go_simp
            clear n0 n1 n2 n3 n4 n5 n6; (have bb := Below.nw v3 (.cells #[.int .i64 0, .int .i64 0, .int .i64 0, .int .i64 0] 43)); (have Y := Bf4.new v3 0 0 0 0 43); (have h7t : bt < v3.heap.size := T.1.1); (have h7p : v3.heap.size ≠ p := by omega); (have H7 : ∀ g, (Value.slice A n c).ownBlock = some g → g ≠ v3.heap.size := fun g hg => by have := (World.ownsRow.lt T.2.1 g hg).2; omega); (replace T := T.below bb); clear bb; generalize v3.heap.size = j7 at *; generalize v3.alloc (.cells #[.int .i64 0, .int .i64 0, .int .i64 0, .int .i64 0] 43) = v4 at *; (obtain ⟨n0, n1, n2, n3, n4, n5, n6⟩ := id T.1); (obtain ⟨⟨z0, z1, z2, z3, z4⟩, z5, z6, z7, z8⟩ := id Y)
            refine hK.out _ _ ?_ (fun hHeld => ?_)
            ·first | exact ⟨n1, n2, n3⟩ | (simp (maxDischargeDepth := 6) [go_sem, *]; done)
            clear hK K
            (try simp only [Act.put, List.setIfInBounds_toArray, List.set_cons_zero, List.set_cons_succ])
            refine wpAnyH_ready (rs := [8, 12]) (by kernel_rfl) (by simp) ?_
            refine (AllReadyH.cons (by rw [List.getElem?_toArray]; rfl) (fun K hK => ?_) (AllReadyH.cons (by rw [List.getElem?_toArray]; rfl) (fun K hK => ?_) AllReadyH.nil))
            ·go_simp
             refine (l7Put_opt ep us _ _ _ nn A n c M _ (by omega) (FromsO.own T.2.1) hep hus HNN.out).mono ?_; rintro e v5 ⟨a', c', rfl, O, bb⟩; clear n0 n1 n2 n3 n4 n5 n6 z0 z1 z2 z3 z4 z5 z6 z7 z8; (have hsz : w.heap.size + 1 ≤ v4.heap.size := Nat.le_of_lt (Nat.lt_of_le_of_lt hbt T.1.1)); (replace T := T.below bb); (have G7 : ∀ g, (Value.slice a' (n + 1) c').ownBlock = some g → g ≠ j7 := fun g hg => by have := (World.ownsRow.lt O g hg).1; have := Y.1.1; omega); (replace Y := Y.below bb); (replace O := ownK_le O hsz); clear bb hsz; (obtain ⟨n0, n1, n2, n3, n4, n5, n6⟩ := id T.1); (obtain ⟨⟨z0, z1, z2, z3, z4⟩, z5, z6, z7, z8⟩ := id Y)
             (try go_wp2_with fail)
             refine hK.out _ _ ?_ (fun hHeld => ?_)
             ·first | exact ⟨n1, n2, n3⟩ | (simp (maxDischargeDepth := 6) [go_sem, *]; done)
             clear hK K
             (try simp only [Act.put, List.setIfInBounds_toArray, List.set_cons_zero, List.set_cons_succ])
             refine wpAnyH_take (i := 9) (v := ?_) (by rw [List.getElem?_toArray]; rfl) (by kernel_rfl) (by kernel_rfl) (by kernel_rfl) (by intro _ _ _ h; exact h) (Or.inl ⟨by rfl, ?_⟩) (by assumption) ?_
             rotate_left
             ·(intro w hSw; (try dsimp only at hSw); go_simp; all_goals with_reducible rfl)
             (try simp only [Act.put, List.setIfInBounds_toArray, List.set_cons_zero, List.set_cons_succ])
             refine wpAnyH_take (i := 10) (v := ?_) (by rw [List.getElem?_toArray]; rfl) (by kernel_rfl) (by kernel_rfl) (by kernel_rfl) (by intro _ _ _ h; exact h) (Or.inl ⟨by rfl, ?_⟩) (by assumption) ?_
             rotate_left
             ·(intro w hSw; (try dsimp only at hSw); go_simp; all_goals with_reducible rfl)
             (try simp only [Act.put, List.setIfInBounds_toArray, List.set_cons_zero, List.set_cons_succ])
             refine wpAnyH_take (i := 11) (v := ?_) (by rw [List.getElem?_toArray]; rfl) (by kernel_rfl) (by kernel_rfl) (by kernel_rfl) (by intro _ _ _ h; exact h) (Or.inl ⟨by rfl, ?_⟩) (by assumption) ?_
             rotate_left
             ·(intro w hSw; (try dsimp only at hSw); go_simp; all_goals with_reducible rfl)
             (try simp only [Act.put, List.setIfInBounds_toArray, List.set_cons_zero, List.set_cons_succ])
             refine wpAnyH_ready (rs := [12]) (by kernel_rfl) (by simp) ?_
             refine (AllReadyH.cons (by rw [List.getElem?_toArray]; rfl) (fun K hK => ?_) AllReadyH.nil)
             go_simp
             clear n0 n1 n2 n3 n4 n5 n6 z0 z1 z2 z3 z4 z5 z6 z7 z8; (have bb := Below.nw v5 (.cells #[.int .i64 0, .int .i64 0, .slice none 0 0] 39)); (have X := Bx3.new v5 (.int .i64 0) (.int .i64 0) (.slice none 0 0) 39); (have h6t : bt < v5.heap.size := T.1.1); (have h6p : v5.heap.size ≠ p := by omega); (have H6 : ∀ g, (Value.slice A n c).ownBlock = some g → g ≠ v5.heap.size := fun g hg => by have := (World.ownsRow.lt T.2.1 g hg).2; omega); (have h67 : j7 < v5.heap.size := Y.1.1); (replace Y := Y.below bb); (have G6 : ∀ g, (Value.slice a' (n + 1) c').ownBlock = some g → g ≠ v5.heap.size := fun g hg => by have := (World.ownsRow.lt O g hg).2; omega); (replace O := own_belK' O bb); (replace T := T.below bb); clear bb; generalize v5.heap.size = j6 at *; generalize v5.alloc (.cells #[.int .i64 0, .int .i64 0, .slice none 0 0] 39) = v6 at *; (obtain ⟨n0, n1, n2, n3, n4, n5, n6⟩ := id T.1); (obtain ⟨y0, y1, y2, y3, y4, y5, y6⟩ := id X); (obtain ⟨⟨z0, z1, z2, z3, z4⟩, z5, z6, z7, z8⟩ := id Y)
             refine hK.out _ _ ?_ (fun hHeld => ?_)
             ·first | exact ⟨n1, n2, n3⟩ | (simp (maxDischargeDepth := 6) [go_sem, *]; done)
             clear hK K
             (try simp only [Act.put, List.setIfInBounds_toArray, List.set_cons_zero, List.set_cons_succ])
             refine wpAnyH_ready (rs := [14]) (by kernel_rfl) (by simp) ?_
             refine (AllReadyH.cons (by rw [List.getElem?_toArray]; rfl) (fun K hK => ?_) AllReadyH.nil)
             go_simp
             clear n0 n1 n2 n3 n4 n5 n6 y0 y1 y2 y3 y4 y5 y6 z0 z1 z2 z3 z4 z5 z6 z7 z8; (have bb : But j6 v6 (((v6.setCell ⟨j6, 0, none⟩ (.int .i64 ep)).setCell ⟨j6, 1, none⟩ (.int .i64 (us + 1))).setCell ⟨j6, 2, none⟩ (.slice a' (n + 1) c')) := put3_but _ _ _ _ _); (have cc : CurOk (((v6.setCell ⟨j6, 0, none⟩ (.int .i64 ep)).setCell ⟨j6, 1, none⟩ (.int .i64 (us + 1))).setCell ⟨j6, 2, none⟩ (.slice a' (n + 1) c')) B p := CurOk.put3 T.2.2.1 h6p (by omega) _ _ _); (replace T := T.other bb cc h6t hbt H6); (replace X : Bx3 (((v6.setCell ⟨j6, 0, none⟩ (.int .i64 ep)).setCell ⟨j6, 1, none⟩ (.int .i64 (us + 1))).setCell ⟨j6, 2, none⟩ (.slice a' (n + 1) c')) j6 (.int .i64 ep) (.int .i64 (us + 1)) (.slice a' (n + 1) c') := X.set _ _ _); (replace Y := Y.but bb (by omega)); (replace O := own_neK O bb G6); clear bb cc; generalize (((v6.setCell ⟨j6, 0, none⟩ (.int .i64 ep)).setCell ⟨j6, 1, none⟩ (.int .i64 (us + 1))).setCell ⟨j6, 2, none⟩ (.slice a' (n + 1) c')) = v7 at *; (obtain ⟨n0, n1, n2, n3, n4, n5, n6⟩ := id T.1); (obtain ⟨y0, y1, y2, y3, y4, y5, y6⟩ := id X); (obtain ⟨⟨z0, z1, z2, z3, z4⟩, z5, z6, z7, z8⟩ := id Y)
             refine hK.out _ _ ?_ (fun hHeld => ?_)
             ·first | exact ⟨n1, n2, n3⟩ | (simp (maxDischargeDepth := 6) [go_sem, *]; done)
             clear hK K
             (try simp only [Act.put, List.setIfInBounds_toArray, List.set_cons_zero, List.set_cons_succ])
             refine wpAnyH_ready (rs := [15]) (by kernel_rfl) (by simp) ?_
             refine (AllReadyH.cons (by rw [List.getElem?_toArray]; rfl) (fun K hK => ?_) AllReadyH.nil)
             go_simp
             clear n0 n1 n2 n3 n4 n5 n6 y0 y1 y2 y3 y4 y5 y6 z0 z1 z2 z3 z4 z5 z6 z7 z8; (have bb : But j7 v7 ((((v7.setCell ⟨j7, 0, none⟩ (.int .i64 nn)).setCell ⟨j7, 1, none⟩ (.int .i64 x1)).setCell ⟨j7, 2, none⟩ (.int .i64 x2)).setCell ⟨j7, 3, none⟩ (.int .i64 (IntKind.i64.wrap (1 + x3)))) := put4_but _ _ _ _ _ _); (have cc : CurOk ((((v7.setCell ⟨j7, 0, none⟩ (.int .i64 nn)).setCell ⟨j7, 1, none⟩ (.int .i64 x1)).setCell ⟨j7, 2, none⟩ (.int .i64 x2)).setCell ⟨j7, 3, none⟩ (.int .i64 (IntKind.i64.wrap (1 + x3)))) B p := CurOk.put4 T.2.2.1 h7p (by omega) _ _ _ _); (replace T := T.other bb cc h7t hbt H7); (replace X := X.but bb (by omega)); (replace O := own_neK O bb G7); clear bb cc Y; generalize ((((v7.setCell ⟨j7, 0, none⟩ (.int .i64 nn)).setCell ⟨j7, 1, none⟩ (.int .i64 x1)).setCell ⟨j7, 2, none⟩ (.int .i64 x2)).setCell ⟨j7, 3, none⟩ (.int .i64 (IntKind.i64.wrap (1 + x3)))) = v8 at *; (obtain ⟨n0, n1, n2, n3, n4, n5, n6⟩ := id T.1); (obtain ⟨y0, y1, y2, y3, y4, y5, y6⟩ := id X)
             refine hK.out _ _ ?_ (fun hHeld => ?_)
             ·first | exact ⟨n1, n2, n3⟩ | (simp (maxDischargeDepth := 6) [go_sem, *]; done)
             clear hK K
             (try simp only [Act.put, List.setIfInBounds_toArray, List.set_cons_zero, List.set_cons_succ])
             refine wpAnyH_done (by kernel_rfl) ?_ _
             (try go_wp2_with fail)
             go_meet
             case rel => exact ⟨j6, a', c', x1, x2, _, rfl, by omega, ⟨x1l, x1h⟩, X, O, T⟩
            ·go_simp
             clear n0 n1 n2 n3 n4 n5 n6 z0 z1 z2 z3 z4 z5 z6 z7 z8; (have bb := Below.nw v4 (.cells #[.int .i64 0, .int .i64 0, .slice none 0 0] 39)); (have X := Bx3.new v4 (.int .i64 0) (.int .i64 0) (.slice none 0 0) 39); (have h6t : bt < v4.heap.size := T.1.1); (have h6p : v4.heap.size ≠ p := by omega); (have H6 : ∀ g, (Value.slice A n c).ownBlock = some g → g ≠ v4.heap.size := fun g hg => by have := (World.ownsRow.lt T.2.1 g hg).2; omega); (have h67 : j7 < v4.heap.size := Y.1.1); (replace Y := Y.below bb); (replace T := T.below bb); clear bb; generalize v4.heap.size = j6 at *; generalize v4.alloc (.cells #[.int .i64 0, .int .i64 0, .slice none 0 0] 39) = v5 at *; (obtain ⟨n0, n1, n2, n3, n4, n5, n6⟩ := id T.1); (obtain ⟨y0, y1, y2, y3, y4, y5, y6⟩ := id X); (obtain ⟨⟨z0, z1, z2, z3, z4⟩, z5, z6, z7, z8⟩ := id Y)
             refine hK.out _ _ ?_ (fun hHeld => ?_)
             ·first | exact ⟨n1, n2, n3⟩ | (simp (maxDischargeDepth := 6) [go_sem, *]; done)
             clear hK K
             (try simp only [Act.put, List.setIfInBounds_toArray, List.set_cons_zero, List.set_cons_succ])
             refine wpAnyH_ready (rs := [8]) (by kernel_rfl) (by simp) ?_
             refine (AllReadyH.cons (by rw [List.getElem?_toArray]; rfl) (fun K hK => ?_) AllReadyH.nil)
             go_simp
             refine (l7Put_opt ep us _ _ _ nn A n c M _ (by omega) (FromsO.own T.2.1) hep hus HNN.out).mono ?_; rintro e v6 ⟨a', c', rfl, O, bb⟩; clear n0 n1 n2 n3 n4 n5 n6 y0 y1 y2 y3 y4 y5 y6 z0 z1 z2 z3 z4 z5 z6 z7 z8; (have hsz : w.heap.size + 1 ≤ v5.heap.size := Nat.le_of_lt (Nat.lt_of_le_of_lt hbt T.1.1)); (replace T := T.below bb); (have G6 : ∀ g, (Value.slice a' (n + 1) c').ownBlock = some g → g ≠ j6 := fun g hg => by have := (World.ownsRow.lt O g hg).1; have := X.1; omega); (replace X := X.below bb); (have G7 : ∀ g, (Value.slice a' (n + 1) c').ownBlock = some g → g ≠ j7 := fun g hg => by have := (World.ownsRow.lt O g hg).1; have := Y.1.1; omega); (replace Y := Y.below bb); (replace O := ownK_le O hsz); clear bb hsz; (obtain ⟨n0, n1, n2, n3, n4, n5, n6⟩ := id T.1); (obtain ⟨y0, y1, y2, y3, y4, y5, y6⟩ := id X); (obtain ⟨⟨z0, z1, z2, z3, z4⟩, z5, z6, z7, z8⟩ := id Y)
             (try go_wp2_with fail)
             refine hK.out _ _ ?_ (fun hHeld => ?_)
             ·first | exact ⟨n1, n2, n3⟩ | (simp (maxDischargeDepth := 6) [go_sem, *]; done)
             clear hK K
             (try simp only [Act.put, List.setIfInBounds_toArray, List.set_cons_zero, List.set_cons_succ])
             refine wpAnyH_take (i := 9) (v := ?_) (by rw [List.getElem?_toArray]; rfl) (by kernel_rfl) (by kernel_rfl) (by kernel_rfl) (by intro _ _ _ h; exact h) (Or.inl ⟨by rfl, ?_⟩) (by assumption) ?_
             rotate_left
             ·(intro w hSw; (try dsimp only at hSw); go_simp; all_goals with_reducible rfl)
             (try simp only [Act.put, List.setIfInBounds_toArray, List.set_cons_zero, List.set_cons_succ])
             refine wpAnyH_take (i := 10) (v := ?_) (by rw [List.getElem?_toArray]; rfl) (by kernel_rfl) (by kernel_rfl) (by kernel_rfl) (by intro _ _ _ h; exact h) (Or.inl ⟨by rfl, ?_⟩) (by assumption) ?_
             rotate_left
             ·(intro w hSw; (try dsimp only at hSw); go_simp; all_goals with_reducible rfl)
             (try simp only [Act.put, List.setIfInBounds_toArray, List.set_cons_zero, List.set_cons_succ])
             refine wpAnyH_take (i := 11) (v := ?_) (by rw [List.getElem?_toArray]; rfl) (by kernel_rfl) (by kernel_rfl) (by kernel_rfl) (by intro _ _ _ h; exact h) (Or.inl ⟨by rfl, ?_⟩) (by assumption) ?_
             rotate_left
             ·(intro w hSw; (try dsimp only at hSw); go_simp; all_goals with_reducible rfl)
             (try simp only [Act.put, List.setIfInBounds_toArray, List.set_cons_zero, List.set_cons_succ])
             refine wpAnyH_ready (rs := [14]) (by kernel_rfl) (by simp) ?_
             refine (AllReadyH.cons (by rw [List.getElem?_toArray]; rfl) (fun K hK => ?_) AllReadyH.nil)
             go_simp
             clear n0 n1 n2 n3 n4 n5 n6 y0 y1 y2 y3 y4 y5 y6 z0 z1 z2 z3 z4 z5 z6 z7 z8; (have bb : But j6 v6 (((v6.setCell ⟨j6, 0, none⟩ (.int .i64 ep)).setCell ⟨j6, 1, none⟩ (.int .i64 (us + 1))).setCell ⟨j6, 2, none⟩ (.slice a' (n + 1) c')) := put3_but _ _ _ _ _); (have cc : CurOk (((v6.setCell ⟨j6, 0, none⟩ (.int .i64 ep)).setCell ⟨j6, 1, none⟩ (.int .i64 (us + 1))).setCell ⟨j6, 2, none⟩ (.slice a' (n + 1) c')) B p := CurOk.put3 T.2.2.1 h6p (by omega) _ _ _); (replace T := T.other bb cc h6t hbt H6); (replace X : Bx3 (((v6.setCell ⟨j6, 0, none⟩ (.int .i64 ep)).setCell ⟨j6, 1, none⟩ (.int .i64 (us + 1))).setCell ⟨j6, 2, none⟩ (.slice a' (n + 1) c')) j6 (.int .i64 ep) (.int .i64 (us + 1)) (.slice a' (n + 1) c') := X.set _ _ _); (replace Y := Y.but bb (by omega)); (replace O := own_neK O bb G6); clear bb cc; generalize (((v6.setCell ⟨j6, 0, none⟩ (.int .i64 ep)).setCell ⟨j6, 1, none⟩ (.int .i64 (us + 1))).setCell ⟨j6, 2, none⟩ (.slice a' (n + 1) c')) = v7 at *; (obtain ⟨n0, n1, n2, n3, n4, n5, n6⟩ := id T.1); (obtain ⟨y0, y1, y2, y3, y4, y5, y6⟩ := id X); (obtain ⟨⟨z0, z1, z2, z3, z4⟩, z5, z6, z7, z8⟩ := id Y)
             refine hK.out _ _ ?_ (fun hHeld => ?_)
             ·first | exact ⟨n1, n2, n3⟩ | (simp (maxDischargeDepth := 6) [go_sem, *]; done)
             clear hK K
             (try simp only [Act.put, List.setIfInBounds_toArray, List.set_cons_zero, List.set_cons_succ])
             refine wpAnyH_ready (rs := [15]) (by kernel_rfl) (by simp) ?_
             refine (AllReadyH.cons (by rw [List.getElem?_toArray]; rfl) (fun K hK => ?_) AllReadyH.nil)
             go_simp
             clear n0 n1 n2 n3 n4 n5 n6 y0 y1 y2 y3 y4 y5 y6 z0 z1 z2 z3 z4 z5 z6 z7 z8; (have bb : But j7 v7 ((((v7.setCell ⟨j7, 0, none⟩ (.int .i64 nn)).setCell ⟨j7, 1, none⟩ (.int .i64 x1)).setCell ⟨j7, 2, none⟩ (.int .i64 x2)).setCell ⟨j7, 3, none⟩ (.int .i64 (IntKind.i64.wrap (1 + x3)))) := put4_but _ _ _ _ _ _); (have cc : CurOk ((((v7.setCell ⟨j7, 0, none⟩ (.int .i64 nn)).setCell ⟨j7, 1, none⟩ (.int .i64 x1)).setCell ⟨j7, 2, none⟩ (.int .i64 x2)).setCell ⟨j7, 3, none⟩ (.int .i64 (IntKind.i64.wrap (1 + x3)))) B p := CurOk.put4 T.2.2.1 h7p (by omega) _ _ _ _); (replace T := T.other bb cc h7t hbt H7); (replace X := X.but bb (by omega)); (replace O := own_neK O bb G7); clear bb cc Y; generalize ((((v7.setCell ⟨j7, 0, none⟩ (.int .i64 nn)).setCell ⟨j7, 1, none⟩ (.int .i64 x1)).setCell ⟨j7, 2, none⟩ (.int .i64 x2)).setCell ⟨j7, 3, none⟩ (.int .i64 (IntKind.i64.wrap (1 + x3)))) = v8 at *; (obtain ⟨n0, n1, n2, n3, n4, n5, n6⟩ := id T.1); (obtain ⟨y0, y1, y2, y3, y4, y5, y6⟩ := id X)
             refine hK.out _ _ ?_ (fun hHeld => ?_)
             ·first | exact ⟨n1, n2, n3⟩ | (simp (maxDischargeDepth := 6) [go_sem, *]; done)
             clear hK K
             (try simp only [Act.put, List.setIfInBounds_toArray, List.set_cons_zero, List.set_cons_succ])
             refine wpAnyH_done (by kernel_rfl) ?_ _
             (try go_wp2_with fail)
             go_meet
             case rel => exact ⟨j6, a', c', x1, x2, _, rfl, by omega, ⟨x1l, x1h⟩, X, O, T⟩
          ·go_simp
           clear n0 n1 n2 n3 n4 n5 n6; (have bb := Below.nw v2 (.cells #[.int .i64 0, .int .i64 0, .slice none 0 0] 39)); (have X := Bx3.new v2 (.int .i64 0) (.int .i64 0) (.slice none 0 0) 39); (have h6t : bt < v2.heap.size := T.1.1); (have h6p : v2.heap.size ≠ p := by omega); (have H6 : ∀ g, (Value.slice A n c).ownBlock = some g → g ≠ v2.heap.size := fun g hg => by have := (World.ownsRow.lt T.2.1 g hg).2; omega); (replace T := T.below bb); clear bb; generalize v2.heap.size = j6 at *; generalize v2.alloc (.cells #[.int .i64 0, .int .i64 0, .slice none 0 0] 39) = v3 at *; (obtain ⟨n0, n1, n2, n3, n4, n5, n6⟩ := id T.1); (obtain ⟨y0, y1, y2, y3, y4, y5, y6⟩ := id X)
           refine hK.out _ _ ?_ (fun hHeld => ?_)
           ·first | exact ⟨n1, n2, n3⟩ | (simp (maxDischargeDepth := 6) [go_sem, *]; done)
           clear hK K
           (try simp only [Act.put, List.setIfInBounds_toArray, List.set_cons_zero, List.set_cons_succ])
           refine wpAnyH_ready (rs := [6, 13]) (by kernel_rfl) (by simp) ?_
           refine (AllReadyH.cons (by rw [List.getElem?_toArray]; rfl) (fun K hK => ?_) (AllReadyH.cons (by rw [List.getElem?_toArray]; rfl) (fun K hK => ?_) AllReadyH.nil))
           ·go_simp
            refine (l1Below_any B p 4 _ T.2.2.1).mono ?_; rintro e v4 ⟨x3, rfl, x3l, x3h, _, _, cc, bb⟩; clear n0 n1 n2 n3 n4 n5 n6 y0 y1 y2 y3 y4 y5 y6; (replace T := T.but cc bb hp hbt); (replace X := X.but bb h6p); clear cc bb; (obtain ⟨n0, n1, n2, n3, n4, n5, n6⟩ := id T.1); (obtain ⟨y0, y1, y2, y3, y4, y5, y6⟩ := id X)
            (try go_wp2_with fail)
            refine hK.out _ _ ?_ (fun hHeld => ?_)
            ·first | exact ⟨n1, n2, n3⟩ | (simp (maxDischargeDepth := 6) [go_sem, *]; done)
            clear hK K
            (try simp only [Act.put, List.setIfInBounds_toArray, List.set_cons_zero, List.set_cons_succ])
            refine wpAnyH_take (i := 7) (v := ?_) (by rw [List.getElem?_toArray]; rfl) (by kernel_rfl) (by kernel_rfl) (by kernel_rfl) (by intro _ _ _ h; exact h) (Or.inl ⟨by rfl, ?_⟩) (by assumption) ?_
            rotate_left
            ·(intro w hSw; (try dsimp only at hSw); go_simp; all_goals with_reducible rfl)
            (try simp only [Act.put, List.setIfInBounds_toArray, List.set_cons_zero, List.set_cons_succ])
            refine wpAnyH_ready (rs := [8, 13]) (by kernel_rfl) (by simp) ?_
            refine (AllReadyH.cons (by rw [List.getElem?_toArray]; rfl) (fun K hK => ?_) (AllReadyH.cons (by rw [List.getElem?_toArray]; rfl) (fun K hK => ?_) AllReadyH.nil))
            ·go_simp
             refine (l7Put_opt ep us _ _ _ nn A n c M _ (by omega) (FromsO.own T.2.1) hep hus HNN.out).mono ?_; rintro e v5 ⟨a', c', rfl, O, bb⟩; clear n0 n1 n2 n3 n4 n5 n6 y0 y1 y2 y3 y4 y5 y6; (have hsz : w.heap.size + 1 ≤ v4.heap.size := Nat.le_of_lt (Nat.lt_of_le_of_lt hbt T.1.1)); (replace T := T.below bb); (have G6 : ∀ g, (Value.slice a' (n + 1) c').ownBlock = some g → g ≠ j6 := fun g hg => by have := (World.ownsRow.lt O g hg).1; have := X.1; omega); (replace X := X.below bb); (replace O := ownK_le O hsz); clear bb hsz; (obtain ⟨n0, n1, n2, n3, n4, n5, n6⟩ := id T.1); (obtain ⟨y0, y1, y2, y3, y4, y5, y6⟩ := id X)
             (try go_wp2_with fail)
             refine hK.out _ _ ?_ (fun hHeld => ?_)
             ·first | exact ⟨n1, n2, n3⟩ | (simp (maxDischargeDepth := 6) [go_sem, *]; done)
             clear hK K
             (try simp only [Act.put, List.setIfInBounds_toArray, List.set_cons_zero, List.set_cons_succ])
             refine wpAnyH_take (i := 9) (v := ?_) (by rw [List.getElem?_toArray]; rfl) (by kernel_rfl) (by kernel_rfl) (by kernel_rfl) (by intro _ _ _ h; exact h) (Or.inl ⟨by rfl, ?_⟩) (by assumption) ?_
             rotate_left
             ·(intro w hSw; (try dsimp only at hSw); go_simp; all_goals with_reducible rfl)
             (try simp only [Act.put, List.setIfInBounds_toArray, List.set_cons_zero, List.set_cons_succ])
             refine wpAnyH_take (i := 10) (v := ?_) (by rw [List.getElem?_toArray]; rfl) (by kernel_rfl) (by kernel_rfl) (by kernel_rfl) (by intro _ _ _ h; exact h) (Or.inl ⟨by rfl, ?_⟩) (by assumption) ?_
             rotate_left
             ·(intro w hSw; (try dsimp only at hSw); go_simp; all_goals with_reducible rfl)
             (try simp only [Act.put, List.setIfInBounds_toArray, List.set_cons_zero, List.set_cons_succ])
             refine wpAnyH_take (i := 11) (v := ?_) (by rw [List.getElem?_toArray]; rfl) (by kernel_rfl) (by kernel_rfl) (by kernel_rfl) (by intro _ _ _ h; exact h) (Or.inl ⟨by rfl, ?_⟩) (by assumption) ?_
             rotate_left
             ·(intro w hSw; (try dsimp only at hSw); go_simp; all_goals with_reducible rfl)
             (try simp only [Act.put, List.setIfInBounds_toArray, List.set_cons_zero, List.set_cons_succ])
             refine wpAnyH_ready (rs := [13]) (by kernel_rfl) (by simp) ?_
             refine (AllReadyH.cons (by rw [List.getElem?_toArray]; rfl) (fun K hK => ?_) AllReadyH.nil)
             go_simp
             clear n0 n1 n2 n3 n4 n5 n6 y0 y1 y2 y3 y4 y5 y6; (have bb := Below.nw v5 (.cells #[.int .i64 0, .int .i64 0, .int .i64 0, .int .i64 0] 43)); (have Y := Bf4.new v5 0 0 0 0 43); (have h7t : bt < v5.heap.size := T.1.1); (have h7p : v5.heap.size ≠ p := by omega); (have H7 : ∀ g, (Value.slice A n c).ownBlock = some g → g ≠ v5.heap.size := fun g hg => by have := (World.ownsRow.lt T.2.1 g hg).2; omega); (have h67 : j6 < v5.heap.size := X.1); (replace X := X.below bb); (have G7 : ∀ g, (Value.slice a' (n + 1) c').ownBlock = some g → g ≠ v5.heap.size := fun g hg => by have := (World.ownsRow.lt O g hg).2; omega); (replace O := own_belK' O bb); (replace T := T.below bb); clear bb; generalize v5.heap.size = j7 at *; generalize v5.alloc (.cells #[.int .i64 0, .int .i64 0, .int .i64 0, .int .i64 0] 43) = v6 at *; (obtain ⟨n0, n1, n2, n3, n4, n5, n6⟩ := id T.1); (obtain ⟨y0, y1, y2, y3, y4, y5, y6⟩ := id X); (obtain ⟨⟨z0, z1, z2, z3, z4⟩, z5, z6, z7, z8⟩ := id Y)
             refine hK.out _ _ ?_ (fun hHeld => ?_)
             ·first | exact ⟨n1, n2, n3⟩ | (simp (maxDischargeDepth := 6) [go_sem, *]; done)
             clear hK K
             (try simp only [Act.put, List.setIfInBounds_toArray, List.set_cons_zero, List.set_cons_succ])
             refine wpAnyH_ready (rs := [14]) (by kernel_rfl) (by simp) ?_
             refine (AllReadyH.cons (by rw [List.getElem?_toArray]; rfl) (fun K hK => ?_) AllReadyH.nil)
             go_simp
             clear n0 n1 n2 n3 n4 n5 n6 y0 y1 y2 y3 y4 y5 y6 z0 z1 z2 z3 z4 z5 z6 z7 z8; (have bb : But j6 v6 (((v6.setCell ⟨j6, 0, none⟩ (.int .i64 ep)).setCell ⟨j6, 1, none⟩ (.int .i64 (us + 1))).setCell ⟨j6, 2, none⟩ (.slice a' (n + 1) c')) := put3_but _ _ _ _ _); (have cc : CurOk (((v6.setCell ⟨j6, 0, none⟩ (.int .i64 ep)).setCell ⟨j6, 1, none⟩ (.int .i64 (us + 1))).setCell ⟨j6, 2, none⟩ (.slice a' (n + 1) c')) B p := CurOk.put3 T.2.2.1 h6p (by omega) _ _ _); (replace T := T.other bb cc h6t hbt H6); (replace X : Bx3 (((v6.setCell ⟨j6, 0, none⟩ (.int .i64 ep)).setCell ⟨j6, 1, none⟩ (.int .i64 (us + 1))).setCell ⟨j6, 2, none⟩ (.slice a' (n + 1) c')) j6 (.int .i64 ep) (.int .i64 (us + 1)) (.slice a' (n + 1) c') := X.set _ _ _); (replace Y := Y.but bb (by omega)); (replace O := own_neK O bb G6); clear bb cc; generalize (((v6.setCell ⟨j6, 0, none⟩ (.int .i64 ep)).setCell ⟨j6, 1, none⟩ (.int .i64 (us + 1))).setCell ⟨j6, 2, none⟩ (.slice a' (n + 1) c')) = v7 at *; (obtain ⟨n0, n1, n2, n3, n4, n5, n6⟩ := id T.1); (obtain ⟨y0, y1, y2, y3, y4, y5, y6⟩ := id X); (obtain ⟨⟨z0, z1, z2, z3, z4⟩, z5, z6, z7, z8⟩ := id Y)
             refine hK.out _ _ ?_ (fun hHeld => ?_)
             ·first | exact ⟨n1, n2, n3⟩ | (simp (maxDischargeDepth := 6) [go_sem, *]; done)
             clear hK K
             (try simp only [Act.put, List.setIfInBounds_toArray, List.set_cons_zero, List.set_cons_succ])
             refine wpAnyH_ready (rs := [15]) (by kernel_rfl) (by simp) ?_
             refine (AllReadyH.cons (by rw [List.getElem?_toArray]; rfl) (fun K hK => ?_) AllReadyH.nil)
             go_simp
             clear n0 n1 n2 n3 n4 n5 n6 y0 y1 y2 y3 y4 y5 y6 z0 z1 z2 z3 z4 z5 z6 z7 z8; (have bb : But j7 v7 ((((v7.setCell ⟨j7, 0, none⟩ (.int .i64 nn)).setCell ⟨j7, 1, none⟩ (.int .i64 x1)).setCell ⟨j7, 2, none⟩ (.int .i64 x2)).setCell ⟨j7, 3, none⟩ (.int .i64 (IntKind.i64.wrap (1 + x3)))) := put4_but _ _ _ _ _ _); (have cc : CurOk ((((v7.setCell ⟨j7, 0, none⟩ (.int .i64 nn)).setCell ⟨j7, 1, none⟩ (.int .i64 x1)).setCell ⟨j7, 2, none⟩ (.int .i64 x2)).setCell ⟨j7, 3, none⟩ (.int .i64 (IntKind.i64.wrap (1 + x3)))) B p := CurOk.put4 T.2.2.1 h7p (by omega) _ _ _ _); (replace T := T.other bb cc h7t hbt H7); (replace X := X.but bb (by omega)); (replace O := own_neK O bb G7); clear bb cc Y; generalize ((((v7.setCell ⟨j7, 0, none⟩ (.int .i64 nn)).setCell ⟨j7, 1, none⟩ (.int .i64 x1)).setCell ⟨j7, 2, none⟩ (.int .i64 x2)).setCell ⟨j7, 3, none⟩ (.int .i64 (IntKind.i64.wrap (1 + x3)))) = v8 at *; (obtain ⟨n0, n1, n2, n3, n4, n5, n6⟩ := id T.1); (obtain ⟨y0, y1, y2, y3, y4, y5, y6⟩ := id X)
             refine hK.out _ _ ?_ (fun hHeld => ?_)
             ·first | exact ⟨n1, n2, n3⟩ | (simp (maxDischargeDepth := 6) [go_sem, *]; done)
             clear hK K
             (try simp only [Act.put, List.setIfInBounds_toArray, List.set_cons_zero, List.set_cons_succ])
             refine wpAnyH_done (by kernel_rfl) ?_ _
             (try go_wp2_with fail)
             go_meet
             case rel => exact ⟨j6, a', c', x1, x2, _, rfl, by omega, ⟨x1l, x1h⟩, X, O, T⟩
            ·go_simp
             clear n0 n1 n2 n3 n4 n5 n6 y0 y1 y2 y3 y4 y5 y6; (have bb := Below.nw v4 (.cells #[.int .i64 0, .int .i64 0, .int .i64 0, .int .i64 0] 43)); (have Y := Bf4.new v4 0 0 0 0 43); (have h7t : bt < v4.heap.size := T.1.1); (have h7p : v4.heap.size ≠ p := by omega); (have H7 : ∀ g, (Value.slice A n c).ownBlock = some g → g ≠ v4.heap.size := fun g hg => by have := (World.ownsRow.lt T.2.1 g hg).2; omega); (have h67 : j6 < v4.heap.size := X.1); (replace X := X.below bb); (replace T := T.below bb); clear bb; generalize v4.heap.size = j7 at *; generalize v4.alloc (.cells #[.int .i64 0, .int .i64 0, .int .i64 0, .int .i64 0] 43) = v5 at *; (obtain ⟨n0, n1, n2, n3, n4, n5, n6⟩ := id T.1); (obtain ⟨y0, y1, y2, y3, y4, y5, y6⟩ := id X); (obtain ⟨⟨z0, z1, z2, z3, z4⟩, z5, z6, z7, z8⟩ := id Y)
             refine hK.out _ _ ?_ (fun hHeld => ?_)
             ·first | exact ⟨n1, n2, n3⟩ | (simp (maxDischargeDepth := 6) [go_sem, *]; done)
             clear hK K
             (try simp only [Act.put, List.setIfInBounds_toArray, List.set_cons_zero, List.set_cons_succ])
             refine wpAnyH_ready (rs := [8]) (by kernel_rfl) (by simp) ?_
             refine (AllReadyH.cons (by rw [List.getElem?_toArray]; rfl) (fun K hK => ?_) AllReadyH.nil)
             go_simp
             refine (l7Put_opt ep us _ _ _ nn A n c M _ (by omega) (FromsO.own T.2.1) hep hus HNN.out).mono ?_; rintro e v6 ⟨a', c', rfl, O, bb⟩; clear n0 n1 n2 n3 n4 n5 n6 y0 y1 y2 y3 y4 y5 y6 z0 z1 z2 z3 z4 z5 z6 z7 z8; (have hsz : w.heap.size + 1 ≤ v5.heap.size := Nat.le_of_lt (Nat.lt_of_le_of_lt hbt T.1.1)); (replace T := T.below bb); (have G6 : ∀ g, (Value.slice a' (n + 1) c').ownBlock = some g → g ≠ j6 := fun g hg => by have := (World.ownsRow.lt O g hg).1; have := X.1; omega); (replace X := X.below bb); (have G7 : ∀ g, (Value.slice a' (n + 1) c').ownBlock = some g → g ≠ j7 := fun g hg => by have := (World.ownsRow.lt O g hg).1; have := Y.1.1; omega); (replace Y := Y.below bb); (replace O := ownK_le O hsz); clear bb hsz; (obtain ⟨n0, n1, n2, n3, n4, n5, n6⟩ := id T.1); (obtain ⟨y0, y1, y2, y3, y4, y5, y6⟩ := id X); (obtain ⟨⟨z0, z1, z2, z3, z4⟩, z5, z6, z7, z8⟩ := id Y)
             (try go_wp2_with fail)
             refine hK.out _ _ ?_ (fun hHeld => ?_)
             ·first | exact ⟨n1, n2, n3⟩ | (simp (maxDischargeDepth := 6) [go_sem, *]; done)
             clear hK K
             (try simp only [Act.put, List.setIfInBounds_toArray, List.set_cons_zero, List.set_cons_succ])
             refine wpAnyH_take (i := 9) (v := ?_) (by rw [List.getElem?_toArray]; rfl) (by kernel_rfl) (by kernel_rfl) (by kernel_rfl) (by intro _ _ _ h; exact h) (Or.inl ⟨by rfl, ?_⟩) (by assumption) ?_
             rotate_left
             ·(intro w hSw; (try dsimp only at hSw); go_simp; all_goals with_reducible rfl)
             (try simp only [Act.put, List.setIfInBounds_toArray, List.set_cons_zero, List.set_cons_succ])
             refine wpAnyH_take (i := 10) (v := ?_) (by rw [List.getElem?_toArray]; rfl) (by kernel_rfl) (by kernel_rfl) (by kernel_rfl) (by intro _ _ _ h; exact h) (Or.inl ⟨by rfl, ?_⟩) (by assumption) ?_
             rotate_left
             ·(intro w hSw; (try dsimp only at hSw); go_simp; all_goals with_reducible rfl)
             (try simp only [Act.put, List.setIfInBounds_toArray, List.set_cons_zero, List.set_cons_succ])
             refine wpAnyH_take (i := 11) (v := ?_) (by rw [List.getElem?_toArray]; rfl) (by kernel_rfl) (by kernel_rfl) (by kernel_rfl) (by intro _ _ _ h; exact h) (Or.inl ⟨by rfl, ?_⟩) (by assumption) ?_
             rotate_left
             ·(intro w hSw; (try dsimp only at hSw); go_simp; all_goals with_reducible rfl)
             (try simp only [Act.put, List.setIfInBounds_toArray, List.set_cons_zero, List.set_cons_succ])
             refine wpAnyH_ready (rs := [14]) (by kernel_rfl) (by simp) ?_
             refine (AllReadyH.cons (by rw [List.getElem?_toArray]; rfl) (fun K hK => ?_) AllReadyH.nil)
             go_simp
             clear n0 n1 n2 n3 n4 n5 n6 y0 y1 y2 y3 y4 y5 y6 z0 z1 z2 z3 z4 z5 z6 z7 z8; (have bb : But j6 v6 (((v6.setCell ⟨j6, 0, none⟩ (.int .i64 ep)).setCell ⟨j6, 1, none⟩ (.int .i64 (us + 1))).setCell ⟨j6, 2, none⟩ (.slice a' (n + 1) c')) := put3_but _ _ _ _ _); (have cc : CurOk (((v6.setCell ⟨j6, 0, none⟩ (.int .i64 ep)).setCell ⟨j6, 1, none⟩ (.int .i64 (us + 1))).setCell ⟨j6, 2, none⟩ (.slice a' (n + 1) c')) B p := CurOk.put3 T.2.2.1 h6p (by omega) _ _ _); (replace T := T.other bb cc h6t hbt H6); (replace X : Bx3 (((v6.setCell ⟨j6, 0, none⟩ (.int .i64 ep)).setCell ⟨j6, 1, none⟩ (.int .i64 (us + 1))).setCell ⟨j6, 2, none⟩ (.slice a' (n + 1) c')) j6 (.int .i64 ep) (.int .i64 (us + 1)) (.slice a' (n + 1) c') := X.set _ _ _); (replace Y := Y.but bb (by omega)); (replace O := own_neK O bb G6); clear bb cc; generalize (((v6.setCell ⟨j6, 0, none⟩ (.int .i64 ep)).setCell ⟨j6, 1, none⟩ (.int .i64 (us + 1))).setCell ⟨j6, 2, none⟩ (.slice a' (n + 1) c')) = v7 at *; (obtain ⟨n0, n1, n2, n3, n4, n5, n6⟩ := id T.1); (obtain ⟨y0, y1, y2, y3, y4, y5, y6⟩ := id X); (obtain ⟨⟨z0, z1, z2, z3, z4⟩, z5, z6, z7, z8⟩ := id Y)
             refine hK.out _ _ ?_ (fun hHeld => ?_)
             ·first | exact ⟨n1, n2, n3⟩ | (simp (maxDischargeDepth := 6) [go_sem, *]; done)
             clear hK K
             (try simp only [Act.put, List.setIfInBounds_toArray, List.set_cons_zero, List.set_cons_succ])
             refine wpAnyH_ready (rs := [15]) (by kernel_rfl) (by simp) ?_
             refine (AllReadyH.cons (by rw [List.getElem?_toArray]; rfl) (fun K hK => ?_) AllReadyH.nil)
             go_simp
             clear n0 n1 n2 n3 n4 n5 n6 y0 y1 y2 y3 y4 y5 y6 z0 z1 z2 z3 z4 z5 z6 z7 z8; (have bb : But j7 v7 ((((v7.setCell ⟨j7, 0, none⟩ (.int .i64 nn)).setCell ⟨j7, 1, none⟩ (.int .i64 x1)).setCell ⟨j7, 2, none⟩ (.int .i64 x2)).setCell ⟨j7, 3, none⟩ (.int .i64 (IntKind.i64.wrap (1 + x3)))) := put4_but _ _ _ _ _ _); (have cc : CurOk ((((v7.setCell ⟨j7, 0, none⟩ (.int .i64 nn)).setCell ⟨j7, 1, none⟩ (.int .i64 x1)).setCell ⟨j7, 2, none⟩ (.int .i64 x2)).setCell ⟨j7, 3, none⟩ (.int .i64 (IntKind.i64.wrap (1 + x3)))) B p := CurOk.put4 T.2.2.1 h7p (by omega) _ _ _ _); (replace T := T.other bb cc h7t hbt H7); (replace X := X.but bb (by omega)); (replace O := own_neK O bb G7); clear bb cc Y; generalize ((((v7.setCell ⟨j7, 0, none⟩ (.int .i64 nn)).setCell ⟨j7, 1, none⟩ (.int .i64 x1)).setCell ⟨j7, 2, none⟩ (.int .i64 x2)).setCell ⟨j7, 3, none⟩ (.int .i64 (IntKind.i64.wrap (1 + x3)))) = v8 at *; (obtain ⟨n0, n1, n2, n3, n4, n5, n6⟩ := id T.1); (obtain ⟨y0, y1, y2, y3, y4, y5, y6⟩ := id X)
             refine hK.out _ _ ?_ (fun hHeld => ?_)
             ·first | exact ⟨n1, n2, n3⟩ | (simp (maxDischargeDepth := 6) [go_sem, *]; done)
             clear hK K
             (try simp only [Act.put, List.setIfInBounds_toArray, List.set_cons_zero, List.set_cons_succ])
             refine wpAnyH_done (by kernel_rfl) ?_ _
             (try go_wp2_with fail)
             go_meet
             case rel => exact ⟨j6, a', c', x1, x2, _, rfl, by omega, ⟨x1l, x1h⟩, X, O, T⟩
           ·go_simp
            clear n0 n1 n2 n3 n4 n5 n6 y0 y1 y2 y3 y4 y5 y6; (have bb := Below.nw v3 (.cells #[.int .i64 0, .int .i64 0, .int .i64 0, .int .i64 0] 43)); (have Y := Bf4.new v3 0 0 0 0 43); (have h7t : bt < v3.heap.size := T.1.1); (have h7p : v3.heap.size ≠ p := by omega); (have H7 : ∀ g, (Value.slice A n c).ownBlock = some g → g ≠ v3.heap.size := fun g hg => by have := (World.ownsRow.lt T.2.1 g hg).2; omega); (have h67 : j6 < v3.heap.size := X.1); (replace X := X.below bb); (replace T := T.below bb); clear bb; generalize v3.heap.size = j7 at *; generalize v3.alloc (.cells #[.int .i64 0, .int .i64 0, .int .i64 0, .int .i64 0] 43) = v4 at *; (obtain ⟨n0, n1, n2, n3, n4, n5, n6⟩ := id T.1); (obtain ⟨y0, y1, y2, y3, y4, y5, y6⟩ := id X); (obtain ⟨⟨z0, z1, z2, z3, z4⟩, z5, z6, z7, z8⟩ := id Y)
            refine hK.out _ _ ?_ (fun hHeld => ?_)
            ·first | exact ⟨n1, n2, n3⟩ | (simp (maxDischargeDepth := 6) [go_sem, *]; done)
            clear hK K
            (try simp only [Act.put, List.setIfInBounds_toArray, List.set_cons_zero, List.set_cons_succ])
            refine wpAnyH_ready (rs := [6]) (by kernel_rfl) (by simp) ?_
            refine (AllReadyH.cons (by rw [List.getElem?_toArray]; rfl) (fun K hK => ?_) AllReadyH.nil)
            go_simp
            refine (l1Below_any B p 4 _ T.2.2.1).mono ?_; rintro e v5 ⟨x3, rfl, x3l, x3h, _, _, cc, bb⟩; clear n0 n1 n2 n3 n4 n5 n6 y0 y1 y2 y3 y4 y5 y6 z0 z1 z2 z3 z4 z5 z6 z7 z8; (replace T := T.but cc bb hp hbt); (replace X := X.but bb h6p); (replace Y := Y.but bb h7p); clear cc bb; (obtain ⟨n0, n1, n2, n3, n4, n5, n6⟩ := id T.1); (obtain ⟨y0, y1, y2, y3, y4, y5, y6⟩ := id X); (obtain ⟨⟨z0, z1, z2, z3, z4⟩, z5, z6, z7, z8⟩ := id Y)
            (try go_wp2_with fail)
            refine hK.out _ _ ?_ (fun hHeld => ?_)
            ·first | exact ⟨n1, n2, n3⟩ | (simp (maxDischargeDepth := 6) [go_sem, *]; done)
            clear hK K
            (try simp only [Act.put, List.setIfInBounds_toArray, List.set_cons_zero, List.set_cons_succ])
            refine wpAnyH_take (i := 7) (v := ?_) (by rw [List.getElem?_toArray]; rfl) (by kernel_rfl) (by kernel_rfl) (by kernel_rfl) (by intro _ _ _ h; exact h) (Or.inl ⟨by rfl, ?_⟩) (by assumption) ?_
            rotate_left
            ·(intro w hSw; (try dsimp only at hSw); go_simp; all_goals with_reducible rfl)
            (try simp only [Act.put, List.setIfInBounds_toArray, List.set_cons_zero, List.set_cons_succ])
            refine wpAnyH_ready (rs := [8]) (by kernel_rfl) (by simp) ?_
            refine (AllReadyH.cons (by rw [List.getElem?_toArray]; rfl) (fun K hK => ?_) AllReadyH.nil)
            go_simp
            refine (l7Put_opt ep us _ _ _ nn A n c M _ (by omega) (FromsO.own T.2.1) hep hus HNN.out).mono ?_; rintro e v6 ⟨a', c', rfl, O, bb⟩; clear n0 n1 n2 n3 n4 n5 n6 y0 y1 y2 y3 y4 y5 y6 z0 z1 z2 z3 z4 z5 z6 z7 z8; (have hsz : w.heap.size + 1 ≤ v5.heap.size := Nat.le_of_lt (Nat.lt_of_le_of_lt hbt T.1.1)); (replace T := T.below bb); (have G6 : ∀ g, (Value.slice a' (n + 1) c').ownBlock = some g → g ≠ j6 := fun g hg => by have := (World.ownsRow.lt O g hg).1; have := X.1; omega); (replace X := X.below bb); (have G7 : ∀ g, (Value.slice a' (n + 1) c').ownBlock = some g → g ≠ j7 := fun g hg => by have := (World.ownsRow.lt O g hg).1; have := Y.1.1; omega); (replace Y := Y.below bb); (replace O := ownK_le O hsz); clear bb hsz; (obtain ⟨n0, n1, n2, n3, n4, n5, n6⟩ := id T.1); (obtain ⟨y0, y1, y2, y3, y4, y5, y6⟩ := id X); (obtain ⟨⟨z0, z1, z2, z3, z4⟩, z5, z6, z7, z8⟩ := id Y)
            (try go_wp2_with fail)
            refine hK.out _ _ ?_ (fun hHeld => ?_)
            ·first | exact ⟨n1, n2, n3⟩ | (simp (maxDischargeDepth := 6) [go_sem, *]; done)
            clear hK K
            (try simp only [Act.put, List.setIfInBounds_toArray, List.set_cons_zero, List.set_cons_succ])
            refine wpAnyH_take (i := 9) (v := ?_) (by rw [List.getElem?_toArray]; rfl) (by kernel_rfl) (by kernel_rfl) (by kernel_rfl) (by intro _ _ _ h; exact h) (Or.inl ⟨by rfl, ?_⟩) (by assumption) ?_
            rotate_left
            ·(intro w hSw; (try dsimp only at hSw); go_simp; all_goals with_reducible rfl)
            (try simp only [Act.put, List.setIfInBounds_toArray, List.set_cons_zero, List.set_cons_succ])
            refine wpAnyH_take (i := 10) (v := ?_) (by rw [List.getElem?_toArray]; rfl) (by kernel_rfl) (by kernel_rfl) (by kernel_rfl) (by intro _ _ _ h; exact h) (Or.inl ⟨by rfl, ?_⟩) (by assumption) ?_
            rotate_left
            ·(intro w hSw; (try dsimp only at hSw); go_simp; all_goals with_reducible rfl)
            (try simp only [Act.put, List.setIfInBounds_toArray, List.set_cons_zero, List.set_cons_succ])
            refine wpAnyH_take (i := 11) (v := ?_) (by rw [List.getElem?_toArray]; rfl) (by kernel_rfl) (by kernel_rfl) (by kernel_rfl) (by intro _ _ _ h; exact h) (Or.inl ⟨by rfl, ?_⟩) (by assumption) ?_
            rotate_left
            ·(intro w hSw; (try dsimp only at hSw); go_simp; all_goals with_reducible rfl)
            (try simp only [Act.put, List.setIfInBounds_toArray, List.set_cons_zero, List.set_cons_succ])
            refine wpAnyH_ready (rs := [14]) (by kernel_rfl) (by simp) ?_
            refine (AllReadyH.cons (by rw [List.getElem?_toArray]; rfl) (fun K hK => ?_) AllReadyH.nil)
            go_simp
            clear n0 n1 n2 n3 n4 n5 n6 y0 y1 y2 y3 y4 y5 y6 z0 z1 z2 z3 z4 z5 z6 z7 z8; (have bb : But j6 v6 (((v6.setCell ⟨j6, 0, none⟩ (.int .i64 ep)).setCell ⟨j6, 1, none⟩ (.int .i64 (us + 1))).setCell ⟨j6, 2, none⟩ (.slice a' (n + 1) c')) := put3_but _ _ _ _ _); (have cc : CurOk (((v6.setCell ⟨j6, 0, none⟩ (.int .i64 ep)).setCell ⟨j6, 1, none⟩ (.int .i64 (us + 1))).setCell ⟨j6, 2, none⟩ (.slice a' (n + 1) c')) B p := CurOk.put3 T.2.2.1 h6p (by omega) _ _ _); (replace T := T.other bb cc h6t hbt H6); (replace X : Bx3 (((v6.setCell ⟨j6, 0, none⟩ (.int .i64 ep)).setCell ⟨j6, 1, none⟩ (.int .i64 (us + 1))).setCell ⟨j6, 2, none⟩ (.slice a' (n + 1) c')) j6 (.int .i64 ep) (.int .i64 (us + 1)) (.slice a' (n + 1) c') := X.set _ _ _); (replace Y := Y.but bb (by omega)); (replace O := own_neK O bb G6); clear bb cc; generalize (((v6.setCell ⟨j6, 0, none⟩ (.int .i64 ep)).setCell ⟨j6, 1, none⟩ (.int .i64 (us + 1))).setCell ⟨j6, 2, none⟩ (.slice a' (n + 1) c')) = v7 at *; (obtain ⟨n0, n1, n2, n3, n4, n5, n6⟩ := id T.1); (obtain ⟨y0, y1, y2, y3, y4, y5, y6⟩ := id X); (obtain ⟨⟨z0, z1, z2, z3, z4⟩, z5, z6, z7, z8⟩ := id Y)
            refine hK.out _ _ ?_ (fun hHeld => ?_)
            ·first | exact ⟨n1, n2, n3⟩ | (simp (maxDischargeDepth := 6) [go_sem, *]; done)
            clear hK K
            (try simp only [Act.put, List.setIfInBounds_toArray, List.set_cons_zero, List.set_cons_succ])
            refine wpAnyH_ready (rs := [15]) (by kernel_rfl) (by simp) ?_
            refine (AllReadyH.cons (by rw [List.getElem?_toArray]; rfl) (fun K hK => ?_) AllReadyH.nil)
            go_simp
            clear n0 n1 n2 n3 n4 n5 n6 y0 y1 y2 y3 y4 y5 y6 z0 z1 z2 z3 z4 z5 z6 z7 z8; (have bb : But j7 v7 ((((v7.setCell ⟨j7, 0, none⟩ (.int .i64 nn)).setCell ⟨j7, 1, none⟩ (.int .i64 x1)).setCell ⟨j7, 2, none⟩ (.int .i64 x2)).setCell ⟨j7, 3, none⟩ (.int .i64 (IntKind.i64.wrap (1 + x3)))) := put4_but _ _ _ _ _ _); (have cc : CurOk ((((v7.setCell ⟨j7, 0, none⟩ (.int .i64 nn)).setCell ⟨j7, 1, none⟩ (.int .i64 x1)).setCell ⟨j7, 2, none⟩ (.int .i64 x2)).setCell ⟨j7, 3, none⟩ (.int .i64 (IntKind.i64.wrap (1 + x3)))) B p := CurOk.put4 T.2.2.1 h7p (by omega) _ _ _ _); (replace T := T.other bb cc h7t hbt H7); (replace X := X.but bb (by omega)); (replace O := own_neK O bb G7); clear bb cc Y; generalize ((((v7.setCell ⟨j7, 0, none⟩ (.int .i64 nn)).setCell ⟨j7, 1, none⟩ (.int .i64 x1)).setCell ⟨j7, 2, none⟩ (.int .i64 x2)).setCell ⟨j7, 3, none⟩ (.int .i64 (IntKind.i64.wrap (1 + x3)))) = v8 at *; (obtain ⟨n0, n1, n2, n3, n4, n5, n6⟩ := id T.1); (obtain ⟨y0, y1, y2, y3, y4, y5, y6⟩ := id X)
            refine hK.out _ _ ?_ (fun hHeld => ?_)
            ·first | exact ⟨n1, n2, n3⟩ | (simp (maxDischargeDepth := 6) [go_sem, *]; done)
            clear hK K
            (try simp only [Act.put, List.setIfInBounds_toArray, List.set_cons_zero, List.set_cons_succ])
            refine wpAnyH_done (by kernel_rfl) ?_ _
            (try go_wp2_with fail)
            go_meet
            case rel => exact ⟨j6, a', c', x1, x2, _, rfl, by omega, ⟨x1l, x1h⟩, X, O, T⟩
          ·go_simp
           clear n0 n1 n2 n3 n4 n5 n6; (have bb := Below.nw v2 (.cells #[.int .i64 0, .int .i64 0, .int .i64 0, .int .i64 0] 43)); (have Y := Bf4.new v2 0 0 0 0 43); (have h7t : bt < v2.heap.size := T.1.1); (have h7p : v2.heap.size ≠ p := by omega); (have H7 : ∀ g, (Value.slice A n c).ownBlock = some g → g ≠ v2.heap.size := fun g hg => by have := (World.ownsRow.lt T.2.1 g hg).2; omega); (replace T := T.below bb); clear bb; generalize v2.heap.size = j7 at *; generalize v2.alloc (.cells #[.int .i64 0, .int .i64 0, .int .i64 0, .int .i64 0] 43) = v3 at *; (obtain ⟨n0, n1, n2, n3, n4, n5, n6⟩ := id T.1); (obtain ⟨⟨z0, z1, z2, z3, z4⟩, z5, z6, z7, z8⟩ := id Y)
           refine hK.out _ _ ?_ (fun hHeld => ?_)
           ·first | exact ⟨n1, n2, n3⟩ | (simp (maxDischargeDepth := 6) [go_sem, *]; done)
           clear hK K
           (try simp only [Act.put, List.setIfInBounds_toArray, List.set_cons_zero, List.set_cons_succ])
           refine wpAnyH_ready (rs := [6, 12]) (by kernel_rfl) (by simp) ?_
           refine (AllReadyH.cons (by rw [List.getElem?_toArray]; rfl) (fun K hK => ?_) (AllReadyH.cons (by rw [List.getElem?_toArray]; rfl) (fun K hK => ?_) AllReadyH.nil))
           ·go_simp
            refine (l1Below_any B p 4 _ T.2.2.1).mono ?_; rintro e v4 ⟨x3, rfl, x3l, x3h, _, _, cc, bb⟩; clear n0 n1 n2 n3 n4 n5 n6 z0 z1 z2 z3 z4 z5 z6 z7 z8; (replace T := T.but cc bb hp hbt); (replace Y := Y.but bb h7p); clear cc bb; (obtain ⟨n0, n1, n2, n3, n4, n5, n6⟩ := id T.1); (obtain ⟨⟨z0, z1, z2, z3, z4⟩, z5, z6, z7, z8⟩ := id Y)
            (try go_wp2_with fail)
            refine hK.out _ _ ?_ (fun hHeld => ?_)
            ·first | exact ⟨n1, n2, n3⟩ | (simp (maxDischargeDepth := 6) [go_sem, *]; done)
            clear hK K
            (try simp only [Act.put, List.setIfInBounds_toArray, List.set_cons_zero, List.set_cons_succ])
            refine wpAnyH_take (i := 7) (v := ?_) (by rw [List.getElem?_toArray]; rfl) (by kernel_rfl) (by kernel_rfl) (by kernel_rfl) (by intro _ _ _ h; exact h) (Or.inl ⟨by rfl, ?_⟩) (by assumption) ?_
            rotate_left
            ·(intro w hSw; (try dsimp only at hSw); go_simp; all_goals with_reducible rfl)
            (try simp only [Act.put, List.setIfInBounds_toArray, List.set_cons_zero, List.set_cons_succ])
            refine wpAnyH_ready (rs := [8, 12]) (by kernel_rfl) (by simp) ?_
            refine (AllReadyH.cons (by rw [List.getElem?_toArray]; rfl) (fun K hK => ?_) (AllReadyH.cons (by rw [List.getElem?_toArray]; rfl) (fun K hK => ?_) AllReadyH.nil))
            ·go_simp
             refine (l7Put_opt ep us _ _ _ nn A n c M _ (by omega) (FromsO.own T.2.1) hep hus HNN.out).mono ?_; rintro e v5 ⟨a', c', rfl, O, bb⟩; clear n0 n1 n2 n3 n4 n5 n6 z0 z1 z2 z3 z4 z5 z6 z7 z8; (have hsz : w.heap.size + 1 ≤ v4.heap.size := Nat.le_of_lt (Nat.lt_of_le_of_lt hbt T.1.1)); (replace T := T.below bb); (have G7 : ∀ g, (Value.slice a' (n + 1) c').ownBlock = some g → g ≠ j7 := fun g hg => by have := (World.ownsRow.lt O g hg).1; have := Y.1.1; omega); (replace Y := Y.below bb); (replace O := ownK_le O hsz); clear bb hsz; (obtain ⟨n0, n1, n2, n3, n4, n5, n6⟩ := id T.1); (obtain ⟨⟨z0, z1, z2, z3, z4⟩, z5, z6, z7, z8⟩ := id Y)
             (try go_wp2_with fail)
             refine hK.out _ _ ?_ (fun hHeld => ?_)
             ·first | exact ⟨n1, n2, n3⟩ | (simp (maxDischargeDepth := 6) [go_sem, *]; done)
             clear hK K
             (try simp only [Act.put, List.setIfInBounds_toArray, List.set_cons_zero, List.set_cons_succ])
             refine wpAnyH_take (i := 9) (v := ?_) (by rw [List.getElem?_toArray]; rfl) (by kernel_rfl) (by kernel_rfl) (by kernel_rfl) (by intro _ _ _ h; exact h) (Or.inl ⟨by rfl, ?_⟩) (by assumption) ?_
             rotate_left
             ·(intro w hSw; (try dsimp only at hSw); go_simp; all_goals with_reducible rfl)
             (try simp only [Act.put, List.setIfInBounds_toArray, List.set_cons_zero, List.set_cons_succ])
             refine wpAnyH_take (i := 10) (v := ?_) (by rw [List.getElem?_toArray]; rfl) (by kernel_rfl) (by kernel_rfl) (by kernel_rfl) (by intro _ _ _ h; exact h) (Or.inl ⟨by rfl, ?_⟩) (by assumption) ?_
             rotate_left
             ·(intro w hSw; (try dsimp only at hSw); go_simp; all_goals with_reducible rfl)
             (try simp only [Act.put, List.setIfInBounds_toArray, List.set_cons_zero, List.set_cons_succ])
             refine wpAnyH_take (i := 11) (v := ?_) (by rw [List.getElem?_toArray]; rfl) (by kernel_rfl) (by kernel_rfl) (by kernel_rfl) (by intro _ _ _ h; exact h) (Or.inl ⟨by rfl, ?_⟩) (by assumption) ?_
             rotate_left
             ·(intro w hSw; (try dsimp only at hSw); go_simp; all_goals with_reducible rfl)
             (try simp only [Act.put, List.setIfInBounds_toArray, List.set_cons_zero, List.set_cons_succ])
             refine wpAnyH_ready (rs := [12]) (by kernel_rfl) (by simp) ?_
             refine (AllReadyH.cons (by rw [List.getElem?_toArray]; rfl) (fun K hK => ?_) AllReadyH.nil)
             go_simp
             clear n0 n1 n2 n3 n4 n5 n6 z0 z1 z2 z3 z4 z5 z6 z7 z8; (have bb := Below.nw v5 (.cells #[.int .i64 0, .int .i64 0, .slice none 0 0] 39)); (have X := Bx3.new v5 (.int .i64 0) (.int .i64 0) (.slice none 0 0) 39); (have h6t : bt < v5.heap.size := T.1.1); (have h6p : v5.heap.size ≠ p := by omega); (have H6 : ∀ g, (Value.slice A n c).ownBlock = some g → g ≠ v5.heap.size := fun g hg => by have := (World.ownsRow.lt T.2.1 g hg).2; omega); (have h67 : j7 < v5.heap.size := Y.1.1); (replace Y := Y.below bb); (have G6 : ∀ g, (Value.slice a' (n + 1) c').ownBlock = some g → g ≠ v5.heap.size := fun g hg => by have := (World.ownsRow.lt O g hg).2; omega); (replace O := own_belK' O bb); (replace T := T.below bb); clear bb; generalize v5.heap.size = j6 at *; generalize v5.alloc (.cells #[.int .i64 0, .int .i64 0, .slice none 0 0] 39) = v6 at *; (obtain ⟨n0, n1, n2, n3, n4, n5, n6⟩ := id T.1); (obtain ⟨y0, y1, y2, y3, y4, y5, y6⟩ := id X); (obtain ⟨⟨z0, z1, z2, z3, z4⟩, z5, z6, z7, z8⟩ := id Y)
             refine hK.out _ _ ?_ (fun hHeld => ?_)
             ·first | exact ⟨n1, n2, n3⟩ | (simp (maxDischargeDepth := 6) [go_sem, *]; done)
             clear hK K
             (try simp only [Act.put, List.setIfInBounds_toArray, List.set_cons_zero, List.set_cons_succ])
             refine wpAnyH_ready (rs := [14]) (by kernel_rfl) (by simp) ?_
             refine (AllReadyH.cons (by rw [List.getElem?_toArray]; rfl) (fun K hK => ?_) AllReadyH.nil)
             go_simp
             clear n0 n1 n2 n3 n4 n5 n6 y0 y1 y2 y3 y4 y5 y6 z0 z1 z2 z3 z4 z5 z6 z7 z8; (have bb : But j6 v6 (((v6.setCell ⟨j6, 0, none⟩ (.int .i64 ep)).setCell ⟨j6, 1, none⟩ (.int .i64 (us + 1))).setCell ⟨j6, 2, none⟩ (.slice a' (n + 1) c')) := put3_but _ _ _ _ _); (have cc : CurOk (((v6.setCell ⟨j6, 0, none⟩ (.int .i64 ep)).setCell ⟨j6, 1, none⟩ (.int .i64 (us + 1))).setCell ⟨j6, 2, none⟩ (.slice a' (n + 1) c')) B p := CurOk.put3 T.2.2.1 h6p (by omega) _ _ _); (replace T := T.other bb cc h6t hbt H6); (replace X : Bx3 (((v6.setCell ⟨j6, 0, none⟩ (.int .i64 ep)).setCell ⟨j6, 1, none⟩ (.int .i64 (us + 1))).setCell ⟨j6, 2, none⟩ (.slice a' (n + 1) c')) j6 (.int .i64 ep) (.int .i64 (us + 1)) (.slice a' (n + 1) c') := X.set _ _ _); (replace Y := Y.but bb (by omega)); (replace O := own_neK O bb G6); clear bb cc; generalize (((v6.setCell ⟨j6, 0, none⟩ (.int .i64 ep)).setCell ⟨j6, 1, none⟩ (.int .i64 (us + 1))).setCell ⟨j6, 2, none⟩ (.slice a' (n + 1) c')) = v7 at *; (obtain ⟨n0, n1, n2, n3, n4, n5, n6⟩ := id T.1); (obtain ⟨y0, y1, y2, y3, y4, y5, y6⟩ := id X); (obtain ⟨⟨z0, z1, z2, z3, z4⟩, z5, z6, z7, z8⟩ := id Y)
             refine hK.out _ _ ?_ (fun hHeld => ?_)
             ·first | exact ⟨n1, n2, n3⟩ | (simp (maxDischargeDepth := 6) [go_sem, *]; done)
             clear hK K
             (try simp only [Act.put, List.setIfInBounds_toArray, List.set_cons_zero, List.set_cons_succ])
             refine wpAnyH_ready (rs := [15]) (by kernel_rfl) (by simp) ?_
             refine (AllReadyH.cons (by rw [List.getElem?_toArray]; rfl) (fun K hK => ?_) AllReadyH.nil)
             go_simp
             clear n0 n1 n2 n3 n4 n5 n6 y0 y1 y2 y3 y4 y5 y6 z0 z1 z2 z3 z4 z5 z6 z7 z8; (have bb : But j7 v7 ((((v7.setCell ⟨j7, 0, none⟩ (.int .i64 nn)).setCell ⟨j7, 1, none⟩ (.int .i64 x1)).setCell ⟨j7, 2, none⟩ (.int .i64 x2)).setCell ⟨j7, 3, none⟩ (.int .i64 (IntKind.i64.wrap (1 + x3)))) := put4_but _ _ _ _ _ _); (have cc : CurOk ((((v7.setCell ⟨j7, 0, none⟩ (.int .i64 nn)).setCell ⟨j7, 1, none⟩ (.int .i64 x1)).setCell ⟨j7, 2, none⟩ (.int .i64 x2)).setCell ⟨j7, 3, none⟩ (.int .i64 (IntKind.i64.wrap (1 + x3)))) B p := CurOk.put4 T.2.2.1 h7p (by omega) _ _ _ _); (replace T := T.other bb cc h7t hbt H7); (replace X := X.but bb (by omega)); (replace O := own_neK O bb G7); clear bb cc Y; generalize ((((v7.setCell ⟨j7, 0, none⟩ (.int .i64 nn)).setCell ⟨j7, 1, none⟩ (.int .i64 x1)).setCell ⟨j7, 2, none⟩ (.int .i64 x2)).setCell ⟨j7, 3, none⟩ (.int .i64 (IntKind.i64.wrap (1 + x3)))) = v8 at *; (obtain ⟨n0, n1, n2, n3, n4, n5, n6⟩ := id T.1); (obtain ⟨y0, y1, y2, y3, y4, y5, y6⟩ := id X)
             refine hK.out _ _ ?_ (fun hHeld => ?_)
             ·first | exact ⟨n1, n2, n3⟩ | (simp (maxDischargeDepth := 6) [go_sem, *]; done)
             clear hK K
             (try simp only [Act.put, List.setIfInBounds_toArray, List.set_cons_zero, List.set_cons_succ])
             refine wpAnyH_done (by kernel_rfl) ?_ _
             (try go_wp2_with fail)
             go_meet
             case rel => exact ⟨j6, a', c', x1, x2, _, rfl, by omega, ⟨x1l, x1h⟩, X, O, T⟩
            ·go_simp
             clear n0 n1 n2 n3 n4 n5 n6 z0 z1 z2 z3 z4 z5 z6 z7 z8; (have bb := Below.nw v4 (.cells #[.int .i64 0, .int .i64 0, .slice none 0 0] 39)); (have X := Bx3.new v4 (.int .i64 0) (.int .i64 0) (.slice none 0 0) 39); (have h6t : bt < v4.heap.size := T.1.1); (have h6p : v4.heap.size ≠ p := by omega); (have H6 : ∀ g, (Value.slice A n c).ownBlock = some g → g ≠ v4.heap.size := fun g hg => by have := (World.ownsRow.lt T.2.1 g hg).2; omega); (have h67 : j7 < v4.heap.size := Y.1.1); (replace Y := Y.below bb); (replace T := T.below bb); clear bb; generalize v4.heap.size = j6 at *; generalize v4.alloc (.cells #[.int .i64 0, .int .i64 0, .slice none 0 0] 39) = v5 at *; (obtain ⟨n0, n1, n2, n3, n4, n5, n6⟩ := id T.1); (obtain ⟨y0, y1, y2, y3, y4, y5, y6⟩ := id X); (obtain ⟨⟨z0, z1, z2, z3, z4⟩, z5, z6, z7, z8⟩ := id Y)
             refine hK.out _ _ ?_ (fun hHeld => ?_)
             ·first | exact ⟨n1, n2, n3⟩ | (simp (maxDischargeDepth := 6) [go_sem, *]; done)
             clear hK K
             (try simp only [Act.put, List.setIfInBounds_toArray, List.set_cons_zero, List.set_cons_succ])
             refine wpAnyH_ready (rs := [8]) (by kernel_rfl) (by simp) ?_
             refine (AllReadyH.cons (by rw [List.getElem?_toArray]; rfl) (fun K hK => ?_) AllReadyH.nil)
             go_simp
             refine (l7Put_opt ep us _ _ _ nn A n c M _ (by omega) (FromsO.own T.2.1) hep hus HNN.out).mono ?_; rintro e v6 ⟨a', c', rfl, O, bb⟩; clear n0 n1 n2 n3 n4 n5 n6 y0 y1 y2 y3 y4 y5 y6 z0 z1 z2 z3 z4 z5 z6 z7 z8; (have hsz : w.heap.size + 1 ≤ v5.heap.size := Nat.le_of_lt (Nat.lt_of_le_of_lt hbt T.1.1)); (replace T := T.below bb); (have G6 : ∀ g, (Value.slice a' (n + 1) c').ownBlock = some g → g ≠ j6 := fun g hg => by have := (World.ownsRow.lt O g hg).1; have := X.1; omega); (replace X := X.below bb); (have G7 : ∀ g, (Value.slice a' (n + 1) c').ownBlock = some g → g ≠ j7 := fun g hg => by have := (World.ownsRow.lt O g hg).1; have := Y.1.1; omega); (replace Y := Y.below bb); (replace O := ownK_le O hsz); clear bb hsz; (obtain ⟨n0, n1, n2, n3, n4, n5, n6⟩ := id T.1); (obtain ⟨y0, y1, y2, y3, y4, y5, y6⟩ := id X); (obtain ⟨⟨z0, z1, z2, z3, z4⟩, z5, z6, z7, z8⟩ := id Y)
             (try go_wp2_with fail)
             refine hK.out _ _ ?_ (fun hHeld => ?_)
             ·first | exact ⟨n1, n2, n3⟩ | (simp (maxDischargeDepth := 6) [go_sem, *]; done)
             clear hK K
             (try simp only [Act.put, List.setIfInBounds_toArray, List.set_cons_zero, List.set_cons_succ])
             refine wpAnyH_take (i := 9) (v := ?_) (by rw [List.getElem?_toArray]; rfl) (by kernel_rfl) (by kernel_rfl) (by kernel_rfl) (by intro _ _ _ h; exact h) (Or.inl ⟨by rfl, ?_⟩) (by assumption) ?_
             rotate_left
             ·(intro w hSw; (try dsimp only at hSw); go_simp; all_goals with_reducible rfl)
             (try simp only [Act.put, List.setIfInBounds_toArray, List.set_cons_zero, List.set_cons_succ])
             refine wpAnyH_take (i := 10) (v := ?_) (by rw [List.getElem?_toArray]; rfl) (by kernel_rfl) (by kernel_rfl) (by kernel_rfl) (by intro _ _ _ h; exact h) (Or.inl ⟨by rfl, ?_⟩) (by assumption) ?_
             rotate_left
             ·(intro w hSw; (try dsimp only at hSw); go_simp; all_goals with_reducible rfl)
             (try simp only [Act.put, List.setIfInBounds_toArray, List.set_cons_zero, List.set_cons_succ])
             refine wpAnyH_take (i := 11) (v := ?_) (by rw [List.getElem?_toArray]; rfl) (by kernel_rfl) (by kernel_rfl) (by kernel_rfl) (by intro _ _ _ h; exact h) (Or.inl ⟨by rfl, ?_⟩) (by assumption) ?_
             rotate_left
             ·(intro w hSw; (try dsimp only at hSw); go_simp; all_goals with_reducible rfl)
             (try simp only [Act.put, List.setIfInBounds_toArray, List.set_cons_zero, List.set_cons_succ])
             refine wpAnyH_ready (rs := [14]) (by kernel_rfl) (by simp) ?_
             refine (AllReadyH.cons (by rw [List.getElem?_toArray]; rfl) (fun K hK => ?_) AllReadyH.nil)
             go_simp
             clear n0 n1 n2 n3 n4 n5 n6 y0 y1 y2 y3 y4 y5 y6 z0 z1 z2 z3 z4 z5 z6 z7 z8; (have bb : But j6 v6 (((v6.setCell ⟨j6, 0, none⟩ (.int .i64 ep)).setCell ⟨j6, 1, none⟩ (.int .i64 (us + 1))).setCell ⟨j6, 2, none⟩ (.slice a' (n + 1) c')) := put3_but _ _ _ _ _); (have cc : CurOk (((v6.setCell ⟨j6, 0, none⟩ (.int .i64 ep)).setCell ⟨j6, 1, none⟩ (.int .i64 (us + 1))).setCell ⟨j6, 2, none⟩ (.slice a' (n + 1) c')) B p := CurOk.put3 T.2.2.1 h6p (by omega) _ _ _); (replace T := T.other bb cc h6t hbt H6); (replace X : Bx3 (((v6.setCell ⟨j6, 0, none⟩ (.int .i64 ep)).setCell ⟨j6, 1, none⟩ (.int .i64 (us + 1))).setCell ⟨j6, 2, none⟩ (.slice a' (n + 1) c')) j6 (.int .i64 ep) (.int .i64 (us + 1)) (.slice a' (n + 1) c') := X.set _ _ _); (replace Y := Y.but bb (by omega)); (replace O := own_neK O bb G6); clear bb cc; generalize (((v6.setCell ⟨j6, 0, none⟩ (.int .i64 ep)).setCell ⟨j6, 1, none⟩ (.int .i64 (us + 1))).setCell ⟨j6, 2, none⟩ (.slice a' (n + 1) c')) = v7 at *; (obtain ⟨n0, n1, n2, n3, n4, n5, n6⟩ := id T.1); (obtain ⟨y0, y1, y2, y3, y4, y5, y6⟩ := id X); (obtain ⟨⟨z0, z1, z2, z3, z4⟩, z5, z6, z7, z8⟩ := id Y)
             refine hK.out _ _ ?_ (fun hHeld => ?_)
             ·first | exact ⟨n1, n2, n3⟩ | (simp (maxDischargeDepth := 6) [go_sem, *]; done)
             clear hK K
             (try simp only [Act.put, List.setIfInBounds_toArray, List.set_cons_zero, List.set_cons_succ])
             refine wpAnyH_ready (rs := [15]) (by kernel_rfl) (by simp) ?_
             refine (AllReadyH.cons (by rw [List.getElem?_toArray]; rfl) (fun K hK => ?_) AllReadyH.nil)
             go_simp
             clear n0 n1 n2 n3 n4 n5 n6 y0 y1 y2 y3 y4 y5 y6 z0 z1 z2 z3 z4 z5 z6 z7 z8; (have bb : But j7 v7 ((((v7.setCell ⟨j7, 0, none⟩ (.int .i64 nn)).setCell ⟨j7, 1, none⟩ (.int .i64 x1)).setCell ⟨j7, 2, none⟩ (.int .i64 x2)).setCell ⟨j7, 3, none⟩ (.int .i64 (IntKind.i64.wrap (1 + x3)))) := put4_but _ _ _ _ _ _); (have cc : CurOk ((((v7.setCell ⟨j7, 0, none⟩ (.int .i64 nn)).setCell ⟨j7, 1, none⟩ (.int .i64 x1)).setCell ⟨j7, 2, none⟩ (.int .i64 x2)).setCell ⟨j7, 3, none⟩ (.int .i64 (IntKind.i64.wrap (1 + x3)))) B p := CurOk.put4 T.2.2.1 h7p (by omega) _ _ _ _); (replace T := T.other bb cc h7t hbt H7); (replace X := X.but bb (by omega)); (replace O := own_neK O bb G7); clear bb cc Y; generalize ((((v7.setCell ⟨j7, 0, none⟩ (.int .i64 nn)).setCell ⟨j7, 1, none⟩ (.int .i64 x1)).setCell ⟨j7, 2, none⟩ (.int .i64 x2)).setCell ⟨j7, 3, none⟩ (.int .i64 (IntKind.i64.wrap (1 + x3)))) = v8 at *; (obtain ⟨n0, n1, n2, n3, n4, n5, n6⟩ := id T.1); (obtain ⟨y0, y1, y2, y3, y4, y5, y6⟩ := id X)
             refine hK.out _ _ ?_ (fun hHeld => ?_)
             ·first | exact ⟨n1, n2, n3⟩ | (simp (maxDischargeDepth := 6) [go_sem, *]; done)
             clear hK K
             (try simp only [Act.put, List.setIfInBounds_toArray, List.set_cons_zero, List.set_cons_succ])
             refine wpAnyH_done (by kernel_rfl) ?_ _
             (try go_wp2_with fail)
             go_meet
             case rel => exact ⟨j6, a', c', x1, x2, _, rfl, by omega, ⟨x1l, x1h⟩, X, O, T⟩
           ·go_simp
            clear n0 n1 n2 n3 n4 n5 n6 z0 z1 z2 z3 z4 z5 z6 z7 z8; (have bb := Below.nw v3 (.cells #[.int .i64 0, .int .i64 0, .slice none 0 0] 39)); (have X := Bx3.new v3 (.int .i64 0) (.int .i64 0) (.slice none 0 0) 39); (have h6t : bt < v3.heap.size := T.1.1); (have h6p : v3.heap.size ≠ p := by omega); (have H6 : ∀ g, (Value.slice A n c).ownBlock = some g → g ≠ v3.heap.size := fun g hg => by have := (World.ownsRow.lt T.2.1 g hg).2; omega); (have h67 : j7 < v3.heap.size := Y.1.1); (replace Y := Y.below bb); (replace T := T.below bb); clear bb; generalize v3.heap.size = j6 at *; generalize v3.alloc (.cells #[.int .i64 0, .int .i64 0, .slice none 0 0] 39) = v4 at *; (obtain ⟨n0, n1, n2, n3, n4, n5, n6⟩ := id T.1); (obtain ⟨y0, y1, y2, y3, y4, y5, y6⟩ := id X); (obtain ⟨⟨z0, z1, z2, z3, z4⟩, z5, z6, z7, z8⟩ := id Y)
            refine hK.out _ _ ?_ (fun hHeld => ?_)
            ·first | exact ⟨n1, n2, n3⟩ | (simp (maxDischargeDepth := 6) [go_sem, *]; done)
            clear hK K
            (try simp only [Act.put, List.setIfInBounds_toArray, List.set_cons_zero, List.set_cons_succ])
            refine wpAnyH_ready (rs := [6]) (by kernel_rfl) (by simp) ?_
            refine (AllReadyH.cons (by rw [List.getElem?_toArray]; rfl) (fun K hK => ?_) AllReadyH.nil)
            go_simp
            refine (l1Below_any B p 4 _ T.2.2.1).mono ?_; rintro e v5 ⟨x3, rfl, x3l, x3h, _, _, cc, bb⟩; clear n0 n1 n2 n3 n4 n5 n6 y0 y1 y2 y3 y4 y5 y6 z0 z1 z2 z3 z4 z5 z6 z7 z8; (replace T := T.but cc bb hp hbt); (replace X := X.but bb h6p); (replace Y := Y.but bb h7p); clear cc bb; (obtain ⟨n0, n1, n2, n3, n4, n5, n6⟩ := id T.1); (obtain ⟨y0, y1, y2, y3, y4, y5, y6⟩ := id X); (obtain ⟨⟨z0, z1, z2, z3, z4⟩, z5, z6, z7, z8⟩ := id Y)
            (try go_wp2_with fail)
            refine hK.out _ _ ?_ (fun hHeld => ?_)
            ·first | exact ⟨n1, n2, n3⟩ | (simp (maxDischargeDepth := 6) [go_sem, *]; done)
            clear hK K
            (try simp only [Act.put, List.setIfInBounds_toArray, List.set_cons_zero, List.set_cons_succ])
            refine wpAnyH_take (i := 7) (v := ?_) (by rw [List.getElem?_toArray]; rfl) (by kernel_rfl) (by kernel_rfl) (by kernel_rfl) (by intro _ _ _ h; exact h) (Or.inl ⟨by rfl, ?_⟩) (by assumption) ?_
            rotate_left
            ·(intro w hSw; (try dsimp only at hSw); go_simp; all_goals with_reducible rfl)
            (try simp only [Act.put, List.setIfInBounds_toArray, List.set_cons_zero, List.set_cons_succ])
            refine wpAnyH_ready (rs := [8]) (by kernel_rfl) (by simp) ?_
            refine (AllReadyH.cons (by rw [List.getElem?_toArray]; rfl) (fun K hK => ?_) AllReadyH.nil)
            go_simp
            refine (l7Put_opt ep us _ _ _ nn A n c M _ (by omega) (FromsO.own T.2.1) hep hus HNN.out).mono ?_; rintro e v6 ⟨a', c', rfl, O, bb⟩; clear n0 n1 n2 n3 n4 n5 n6 y0 y1 y2 y3 y4 y5 y6 z0 z1 z2 z3 z4 z5 z6 z7 z8; (have hsz : w.heap.size + 1 ≤ v5.heap.size := Nat.le_of_lt (Nat.lt_of_le_of_lt hbt T.1.1)); (replace T := T.below bb); (have G6 : ∀ g, (Value.slice a' (n + 1) c').ownBlock = some g → g ≠ j6 := fun g hg => by have := (World.ownsRow.lt O g hg).1; have := X.1; omega); (replace X := X.below bb); (have G7 : ∀ g, (Value.slice a' (n + 1) c').ownBlock = some g → g ≠ j7 := fun g hg => by have := (World.ownsRow.lt O g hg).1; have := Y.1.1; omega); (replace Y := Y.below bb); (replace O := ownK_le O hsz); clear bb hsz; (obtain ⟨n0, n1, n2, n3, n4, n5, n6⟩ := id T.1); (obtain ⟨y0, y1, y2, y3, y4, y5, y6⟩ := id X); (obtain ⟨⟨z0, z1, z2, z3, z4⟩, z5, z6, z7, z8⟩ := id Y)
            (try go_wp2_with fail)
            refine hK.out _ _ ?_ (fun hHeld => ?_)
            ·first | exact ⟨n1, n2, n3⟩ | (simp (maxDischargeDepth := 6) [go_sem, *]; done)
            clear hK K
            (try simp only [Act.put, List.setIfInBounds_toArray, List.set_cons_zero, List.set_cons_succ])
            refine wpAnyH_take (i := 9) (v := ?_) (by rw [List.getElem?_toArray]; rfl) (by kernel_rfl) (by kernel_rfl) (by kernel_rfl) (by intro _ _ _ h; exact h) (Or.inl ⟨by rfl, ?_⟩) (by assumption) ?_
            rotate_left
            ·(intro w hSw; (try dsimp only at hSw); go_simp; all_goals with_reducible rfl)
            (try simp only [Act.put, List.setIfInBounds_toArray, List.set_cons_zero, List.set_cons_succ])
            refine wpAnyH_take (i := 10) (v := ?_) (by rw [List.getElem?_toArray]; rfl) (by kernel_rfl) (by kernel_rfl) (by kernel_rfl) (by intro _ _ _ h; exact h) (Or.inl ⟨by rfl, ?_⟩) (by assumption) ?_
            rotate_left
            ·(intro w hSw; (try dsimp only at hSw); go_simp; all_goals with_reducible rfl)
            (try simp only [Act.put, List.setIfInBounds_toArray, List.set_cons_zero, List.set_cons_succ])
            refine wpAnyH_take (i := 11) (v := ?_) (by rw [List.getElem?_toArray]; rfl) (by kernel_rfl) (by kernel_rfl) (by kernel_rfl) (by intro _ _ _ h; exact h) (Or.inl ⟨by rfl, ?_⟩) (by assumption) ?_
            rotate_left
            ·(intro w hSw; (try dsimp only at hSw); go_simp; all_goals with_reducible rfl)
            (try simp only [Act.put, List.setIfInBounds_toArray, List.set_cons_zero, List.set_cons_succ])
            refine wpAnyH_ready (rs := [14]) (by kernel_rfl) (by simp) ?_
            refine (AllReadyH.cons (by rw [List.getElem?_toArray]; rfl) (fun K hK => ?_) AllReadyH.nil)
            go_simp
            clear n0 n1 n2 n3 n4 n5 n6 y0 y1 y2 y3 y4 y5 y6 z0 z1 z2 z3 z4 z5 z6 z7 z8; (have bb : But j6 v6 (((v6.setCell ⟨j6, 0, none⟩ (.int .i64 ep)).setCell ⟨j6, 1, none⟩ (.int .i64 (us + 1))).setCell ⟨j6, 2, none⟩ (.slice a' (n + 1) c')) := put3_but _ _ _ _ _); (have cc : CurOk (((v6.setCell ⟨j6, 0, none⟩ (.int .i64 ep)).setCell ⟨j6, 1, none⟩ (.int .i64 (us + 1))).setCell ⟨j6, 2, none⟩ (.slice a' (n + 1) c')) B p := CurOk.put3 T.2.2.1 h6p (by omega) _ _ _); (replace T := T.other bb cc h6t hbt H6); (replace X : Bx3 (((v6.setCell ⟨j6, 0, none⟩ (.int .i64 ep)).setCell ⟨j6, 1, none⟩ (.int .i64 (us + 1))).setCell ⟨j6, 2, none⟩ (.slice a' (n + 1) c')) j6 (.int .i64 ep) (.int .i64 (us + 1)) (.slice a' (n + 1) c') := X.set _ _ _); (replace Y := Y.but bb (by omega)); (replace O := own_neK O bb G6); clear bb cc; generalize (((v6.setCell ⟨j6, 0, none⟩ (.int .i64 ep)).setCell ⟨j6, 1, none⟩ (.int .i64 (us + 1))).setCell ⟨j6, 2, none⟩ (.slice a' (n + 1) c')) = v7 at *; (obtain ⟨n0, n1, n2, n3, n4, n5, n6⟩ := id T.1); (obtain ⟨y0, y1, y2, y3, y4, y5, y6⟩ := id X); (obtain ⟨⟨z0, z1, z2, z3, z4⟩, z5, z6, z7, z8⟩ := id Y)
            refine hK.out _ _ ?_ (fun hHeld => ?_)
            ·first | exact ⟨n1, n2, n3⟩ | (simp (maxDischargeDepth := 6) [go_sem, *]; done)
            clear hK K
            (try simp only [Act.put, List.setIfInBounds_toArray, List.set_cons_zero, List.set_cons_succ])
            refine wpAnyH_ready (rs := [15]) (by kernel_rfl) (by simp) ?_
            refine (AllReadyH.cons (by rw [List.getElem?_toArray]; rfl) (fun K hK => ?_) AllReadyH.nil)
            go_simp
            clear n0 n1 n2 n3 n4 n5 n6 y0 y1 y2 y3 y4 y5 y6 z0 z1 z2 z3 z4 z5 z6 z7 z8; (have bb : But j7 v7 ((((v7.setCell ⟨j7, 0, none⟩ (.int .i64 nn)).setCell ⟨j7, 1, none⟩ (.int .i64 x1)).setCell ⟨j7, 2, none⟩ (.int .i64 x2)).setCell ⟨j7, 3, none⟩ (.int .i64 (IntKind.i64.wrap (1 + x3)))) := put4_but _ _ _ _ _ _); (have cc : CurOk ((((v7.setCell ⟨j7, 0, none⟩ (.int .i64 nn)).setCell ⟨j7, 1, none⟩ (.int .i64 x1)).setCell ⟨j7, 2, none⟩ (.int .i64 x2)).setCell ⟨j7, 3, none⟩ (.int .i64 (IntKind.i64.wrap (1 + x3)))) B p := CurOk.put4 T.2.2.1 h7p (by omega) _ _ _ _); (replace T := T.other bb cc h7t hbt H7); (replace X := X.but bb (by omega)); (replace O := own_neK O bb G7); clear bb cc Y; generalize ((((v7.setCell ⟨j7, 0, none⟩ (.int .i64 nn)).setCell ⟨j7, 1, none⟩ (.int .i64 x1)).setCell ⟨j7, 2, none⟩ (.int .i64 x2)).setCell ⟨j7, 3, none⟩ (.int .i64 (IntKind.i64.wrap (1 + x3)))) = v8 at *; (obtain ⟨n0, n1, n2, n3, n4, n5, n6⟩ := id T.1); (obtain ⟨y0, y1, y2, y3, y4, y5, y6⟩ := id X)
            refine hK.out _ _ ?_ (fun hHeld => ?_)
            ·first | exact ⟨n1, n2, n3⟩ | (simp (maxDischargeDepth := 6) [go_sem, *]; done)
            clear hK K
            (try simp only [Act.put, List.setIfInBounds_toArray, List.set_cons_zero, List.set_cons_succ])
            refine wpAnyH_done (by kernel_rfl) ?_ _
            (try go_wp2_with fail)
            go_meet
            case rel => exact ⟨j6, a', c', x1, x2, _, rfl, by omega, ⟨x1l, x1h⟩, X, O, T⟩
         ·go_simp
          clear n0 n1 n2 n3 n4 n5 n6; (have bb := Below.nw v1 (.cells #[.int .i64 0, .int .i64 0, .slice none 0 0] 39)); (have X := Bx3.new v1 (.int .i64 0) (.int .i64 0) (.slice none 0 0) 39); (have h6t : bt < v1.heap.size := T.1.1); (have h6p : v1.heap.size ≠ p := by omega); (have H6 : ∀ g, (Value.slice A n c).ownBlock = some g → g ≠ v1.heap.size := fun g hg => by have := (World.ownsRow.lt T.2.1 g hg).2; omega); (replace T := T.below bb); clear bb; generalize v1.heap.size = j6 at *; generalize v1.alloc (.cells #[.int .i64 0, .int .i64 0, .slice none 0 0] 39) = v2 at *; (obtain ⟨n0, n1, n2, n3, n4, n5, n6⟩ := id T.1); (obtain ⟨y0, y1, y2, y3, y4, y5, y6⟩ := id X)
          refine hK.out _ _ ?_ (fun hHeld => ?_)
          ·first | exact ⟨n1, n2, n3⟩ | (simp (maxDischargeDepth := 6) [go_sem, *]; done)
          clear hK K
          (try simp only [Act.put, List.setIfInBounds_toArray, List.set_cons_zero, List.set_cons_succ])
          refine wpAnyH_ready (rs := [4, 13]) (by kernel_rfl) (by simp) ?_
          refine (AllReadyH.cons (by rw [List.getElem?_toArray]; rfl) (fun K hK => ?_) (AllReadyH.cons (by rw [List.getElem?_toArray]; rfl) (fun K hK => ?_) AllReadyH.nil))
          ·go_simp
           refine (l1Below_any B p 60 _ T.2.2.1).mono ?_; rintro e v3 ⟨x2, rfl, x2l, x2h, _, _, cc, bb⟩; clear n0 n1 n2 n3 n4 n5 n6 y0 y1 y2 y3 y4 y5 y6; (replace T := T.but cc bb hp hbt); (replace X := X.but bb h6p); clear cc bb; (obtain ⟨n0, n1, n2, n3, n4, n5, n6⟩ := id T.1); (obtain ⟨y0, y1, y2, y3, y4, y5, y6⟩ := id X)
           (try go_wp2_with fail)
           refine hK.out _ _ ?_ (fun hHeld => ?_)
           ·first | exact ⟨n1, n2, n3⟩ | (simp (maxDischargeDepth := 6) [go_sem, *]; done)
           clear hK K
           (try simp only [Act.put, List.setIfInBounds_toArray, List.set_cons_zero, List.set_cons_succ])
           refine wpAnyH_ready (rs := [6, 13]) (by kernel_rfl) (by simp) ?_
           refine (AllReadyH.cons (by rw [List.getElem?_toArray]; rfl) (fun K hK => ?_) (AllReadyH.cons (by rw [List.getElem?_toArray]; rfl) (fun K hK => ?_) AllReadyH.nil))
           ·go_simp
            refine (l1Below_any B p 4 _ T.2.2.1).mono ?_; rintro e v4 ⟨x3, rfl, x3l, x3h, _, _, cc, bb⟩; clear n0 n1 n2 n3 n4 n5 n6 y0 y1 y2 y3 y4 y5 y6; (replace T := T.but cc bb hp hbt); (replace X := X.but bb h6p); clear cc bb; (obtain ⟨n0, n1, n2, n3, n4, n5, n6⟩ := id T.1); (obtain ⟨y0, y1, y2, y3, y4, y5, y6⟩ := id X)
            (try go_wp2_with fail)
            refine hK.out _ _ ?_ (fun hHeld => ?_)
            ·first | exact ⟨n1, n2, n3⟩ | (simp (maxDischargeDepth := 6) [go_sem, *]; done)
            clear hK K
            (try simp only [Act.put, List.setIfInBounds_toArray, List.set_cons_zero, List.set_cons_succ])
            refine wpAnyH_take (i := 7) (v := ?_) (by rw [List.getElem?_toArray]; rfl) (by kernel_rfl) (by kernel_rfl) (by kernel_rfl) (by intro _ _ _ h; exact h) (Or.inl ⟨by rfl, ?_⟩) (by assumption) ?_
            rotate_left
            ·(intro w hSw; (try dsimp only at hSw); go_simp; all_goals with_reducible rfl)
            (try simp only [Act.put, List.setIfInBounds_toArray, List.set_cons_zero, List.set_cons_succ])
            refine wpAnyH_ready (rs := [8, 13]) (by kernel_rfl) (by simp) ?_
            refine (AllReadyH.cons (by rw [List.getElem?_toArray]; rfl) (fun K hK => ?_) (AllReadyH.cons (by rw [List.getElem?_toArray]; rfl) (fun K hK => ?_) AllReadyH.nil))
            ·go_simp
             refine (l7Put_opt ep us _ _ _ nn A n c M _ (by omega) (FromsO.own T.2.1) hep hus HNN.out).mono ?_; rintro e v5 ⟨a', c', rfl, O, bb⟩; clear n0 n1 n2 n3 n4 n5 n6 y0 y1 y2 y3 y4 y5 y6; (have hsz : w.heap.size + 1 ≤ v4.heap.size := Nat.le_of_lt (Nat.lt_of_le_of_lt hbt T.1.1)); (replace T := T.below bb); (have G6 : ∀ g, (Value.slice a' (n + 1) c').ownBlock = some g → g ≠ j6 := fun g hg => by have := (World.ownsRow.lt O g hg).1; have := X.1; omega); (replace X := X.below bb); (replace O := ownK_le O hsz); clear bb hsz; (obtain ⟨n0, n1, n2, n3, n4, n5, n6⟩ := id T.1); (obtain ⟨y0, y1, y2, y3, y4, y5, y6⟩ := id X)
             (try go_wp2_with fail)
             refine hK.out _ _ ?_ (fun hHeld => ?_)
             ·first | exact ⟨n1, n2, n3⟩ | (simp (maxDischargeDepth := 6) [go_sem, *]; done)
             clear hK K
             (try simp only [Act.put, List.setIfInBounds_toArray, List.set_cons_zero, List.set_cons_succ])
             refine wpAnyH_take (i := 9) (v := ?_) (by rw [List.getElem?_toArray]; rfl) (by kernel_rfl) (by kernel_rfl) (by kernel_rfl) (by intro _ _ _ h; exact h) (Or.inl ⟨by rfl, ?_⟩) (by assumption) ?_
             rotate_left
             ·(intro w hSw; (try dsimp only at hSw); go_simp; all_goals with_reducible rfl)
             (try simp only [Act.put, List.setIfInBounds_toArray, List.set_cons_zero, List.set_cons_succ])
             refine wpAnyH_take (i := 10) (v := ?_) (by rw [List.getElem?_toArray]; rfl) (by kernel_rfl) (by kernel_rfl) (by kernel_rfl) (by intro _ _ _ h; exact h) (Or.inl ⟨by rfl, ?_⟩) (by assumption) ?_
             rotate_left
             ·(intro w hSw; (try dsimp only at hSw); go_simp; all_goals with_reducible rfl)
             (try simp only [Act.put, List.setIfInBounds_toArray, List.set_cons_zero, List.set_cons_succ])
             refine wpAnyH_take (i := 11) (v := ?_) (by rw [List.getElem?_toArray]; rfl) (by kernel_rfl) (by kernel_rfl) (by kernel_rfl) (by intro _ _ _ h; exact h) (Or.inl ⟨by rfl, ?_⟩) (by assumption) ?_
             rotate_left
             ·(intro w hSw; (try dsimp only at hSw); go_simp; all_goals with_reducible rfl)
             (try simp only [Act.put, List.setIfInBounds_toArray, List.set_cons_zero, List.set_cons_succ])
             refine wpAnyH_ready (rs := [13]) (by kernel_rfl) (by simp) ?_
             refine (AllReadyH.cons (by rw [List.getElem?_toArray]; rfl) (fun K hK => ?_) AllReadyH.nil)
             go_simp
             clear n0 n1 n2 n3 n4 n5 n6 y0 y1 y2 y3 y4 y5 y6; (have bb := Below.nw v5 (.cells #[.int .i64 0, .int .i64 0, .int .i64 0, .int .i64 0] 43)); (have Y := Bf4.new v5 0 0 0 0 43); (have h7t : bt < v5.heap.size := T.1.1); (have h7p : v5.heap.size ≠ p := by omega); (have H7 : ∀ g, (Value.slice A n c).ownBlock = some g → g ≠ v5.heap.size := fun g hg => by have := (World.ownsRow.lt T.2.1 g hg).2; omega); (have h67 : j6 < v5.heap.size := X.1); (replace X := X.below bb); (have G7 : ∀ g, (Value.slice a' (n + 1) c').ownBlock = some g → g ≠ v5.heap.size := fun g hg => by have := (World.ownsRow.lt O g hg).2; omega); (replace O := own_belK' O bb); (replace T := T.below bb); clear bb; generalize v5.heap.size = j7 at *; generalize v5.alloc (.cells #[.int .i64 0, .int .i64 0, .int .i64 0, .int .i64 0] 43) = v6 at *; (obtain ⟨n0, n1, n2, n3, n4, n5, n6⟩ := id T.1); (obtain ⟨y0, y1, y2, y3, y4, y5, y6⟩ := id X); (obtain ⟨⟨z0, z1, z2, z3, z4⟩, z5, z6, z7, z8⟩ := id Y)
             refine hK.out _ _ ?_ (fun hHeld => ?_)
             ·first | exact ⟨n1, n2, n3⟩ | (simp (maxDischargeDepth := 6) [go_sem, *]; done)
             clear hK K
             (try simp only [Act.put, List.setIfInBounds_toArray, List.set_cons_zero, List.set_cons_succ])
             refine wpAnyH_ready (rs := [14]) (by kernel_rfl) (by simp) ?_
             refine (AllReadyH.cons (by rw [List.getElem?_toArray]; rfl) (fun K hK => ?_) AllReadyH.nil)
             go_simp
             clear n0 n1 n2 n3 n4 n5 n6 y0 y1 y2 y3 y4 y5 y6 z0 z1 z2 z3 z4 z5 z6 z7 z8; (have bb : But j6 v6 (((v6.setCell ⟨j6, 0, none⟩ (.int .i64 ep)).setCell ⟨j6, 1, none⟩ (.int .i64 (us + 1))).setCell ⟨j6, 2, none⟩ (.slice a' (n + 1) c')) := put3_but _ _ _ _ _); (have cc : CurOk (((v6.setCell ⟨j6, 0, none⟩ (.int .i64 ep)).setCell ⟨j6, 1, none⟩ (.int .i64 (us + 1))).setCell ⟨j6, 2, none⟩ (.slice a' (n + 1) c')) B p := CurOk.put3 T.2.2.1 h6p (by omega) _ _ _); (replace T := T.other bb cc h6t hbt H6); (replace X : Bx3 (((v6.setCell ⟨j6, 0, none⟩ (.int .i64 ep)).setCell ⟨j6, 1, none⟩ (.int .i64 (us + 1))).setCell ⟨j6, 2, none⟩ (.slice a' (n + 1) c')) j6 (.int .i64 ep) (.int .i64 (us + 1)) (.slice a' (n + 1) c') := X.set _ _ _); (replace Y := Y.but bb (by omega)); (replace O := own_neK O bb G6); clear bb cc; generalize (((v6.setCell ⟨j6, 0, none⟩ (.int .i64 ep)).setCell ⟨j6, 1, none⟩ (.int .i64 (us + 1))).setCell ⟨j6, 2, none⟩ (.slice a' (n + 1) c')) = v7 at *; (obtain ⟨n0, n1, n2, n3, n4, n5, n6⟩ := id T.1); (obtain ⟨y0, y1, y2, y3, y4, y5, y6⟩ := id X); (obtain ⟨⟨z0, z1, z2, z3, z4⟩, z5, z6, z7, z8⟩ := id Y)
             refine hK.out _ _ ?_ (fun hHeld => ?_)
             ·first | exact ⟨n1, n2, n3⟩ | (simp (maxDischargeDepth := 6) [go_sem, *]; done)
             clear hK K
             (try simp only [Act.put, List.setIfInBounds_toArray, List.set_cons_zero, List.set_cons_succ])
             refine wpAnyH_ready (rs := [15]) (by kernel_rfl) (by simp) ?_
             refine (AllReadyH.cons (by rw [List.getElem?_toArray]; rfl) (fun K hK => ?_) AllReadyH.nil)
             go_simp
             clear n0 n1 n2 n3 n4 n5 n6 y0 y1 y2 y3 y4 y5 y6 z0 z1 z2 z3 z4 z5 z6 z7 z8; (have bb : But j7 v7 ((((v7.setCell ⟨j7, 0, none⟩ (.int .i64 nn)).setCell ⟨j7, 1, none⟩ (.int .i64 x1)).setCell ⟨j7, 2, none⟩ (.int .i64 x2)).setCell ⟨j7, 3, none⟩ (.int .i64 (IntKind.i64.wrap (1 + x3)))) := put4_but _ _ _ _ _ _); (have cc : CurOk ((((v7.setCell ⟨j7, 0, none⟩ (.int .i64 nn)).setCell ⟨j7, 1, none⟩ (.int .i64 x1)).setCell ⟨j7, 2, none⟩ (.int .i64 x2)).setCell ⟨j7, 3, none⟩ (.int .i64 (IntKind.i64.wrap (1 + x3)))) B p := CurOk.put4 T.2.2.1 h7p (by omega) _ _ _ _); (replace T := T.other bb cc h7t hbt H7); (replace X := X.but bb (by omega)); (replace O := own_neK O bb G7); clear bb cc Y; generalize ((((v7.setCell ⟨j7, 0, none⟩ (.int .i64 nn)).setCell ⟨j7, 1, none⟩ (.int .i64 x1)).setCell ⟨j7, 2, none⟩ (.int .i64 x2)).setCell ⟨j7, 3, none⟩ (.int .i64 (IntKind.i64.wrap (1 + x3)))) = v8 at *; (obtain ⟨n0, n1, n2, n3, n4, n5, n6⟩ := id T.1); (obtain ⟨y0, y1, y2, y3, y4, y5, y6⟩ := id X)
             refine hK.out _ _ ?_ (fun hHeld => ?_)
             ·first | exact ⟨n1, n2, n3⟩ | (simp (maxDischargeDepth := 6) [go_sem, *]; done)
             clear hK K
             (try simp only [Act.put, List.setIfInBounds_toArray, List.set_cons_zero, List.set_cons_succ])
             refine wpAnyH_done (by kernel_rfl) ?_ _
             (try go_wp2_with fail)
             go_meet
             case rel => exact ⟨j6, a', c', x1, x2, _, rfl, by omega, ⟨x1l, x1h⟩, X, O, T⟩
            ·go_simp
             clear n0 n1 n2 n3 n4 n5 n6 y0 y1 y2 y3 y4 y5 y6; (have bb := Below.nw v4 (.cells #[.int .i64 0, .int .i64 0, .int .i64 0, .int .i64 0] 43)); (have Y := Bf4.new v4 0 0 0 0 43); (have h7t : bt < v4.heap.size := T.1.1); (have h7p : v4.heap.size ≠ p := by omega); (have H7 : ∀ g, (Value.slice A n c).ownBlock = some g → g ≠ v4.heap.size := fun g hg => by have := (World.ownsRow.lt T.2.1 g hg).2; omega); (have h67 : j6 < v4.heap.size := X.1); (replace X := X.below bb); (replace T := T.below bb); clear bb; generalize v4.heap.size = j7 at *; generalize v4.alloc (.cells #[.int .i64 0, .int .i64 0, .int .i64 0, .int .i64 0] 43) = v5 at *; (obtain ⟨n0, n1, n2, n3, n4, n5, n6⟩ := id T.1); (obtain ⟨y0, y1, y2, y3, y4, y5, y6⟩ := id X); (obtain ⟨⟨z0, z1, z2, z3, z4⟩, z5, z6, z7, z8⟩ := id Y)
             refine hK.out _ _ ?_ (fun hHeld => ?_)
             ·first | exact ⟨n1, n2, n3⟩ | (simp (maxDischargeDepth := 6) [go_sem, *]; done)
             clear hK K
             (try simp only [Act.put, List.setIfInBounds_toArray, List.set_cons_zero, List.set_cons_succ])
             refine wpAnyH_ready (rs := [8]) (by kernel_rfl) (by simp) ?_
             refine (AllReadyH.cons (by rw [List.getElem?_toArray]; rfl) (fun K hK => ?_) AllReadyH.nil)
             go_simp
             refine (l7Put_opt ep us _ _ _ nn A n c M _ (by omega) (FromsO.own T.2.1) hep hus HNN.out).mono ?_; rintro e v6 ⟨a', c', rfl, O, bb⟩; clear n0 n1 n2 n3 n4 n5 n6 y0 y1 y2 y3 y4 y5 y6 z0 z1 z2 z3 z4 z5 z6 z7 z8; (have hsz : w.heap.size + 1 ≤ v5.heap.size := Nat.le_of_lt (Nat.lt_of_le_of_lt hbt T.1.1)); (replace T := T.below bb); (have G6 : ∀ g, (Value.slice a' (n + 1) c').ownBlock = some g → g ≠ j6 := fun g hg => by have := (World.ownsRow.lt O g hg).1; have := X.1; omega); (replace X := X.below bb); (have G7 : ∀ g, (Value.slice a' (n + 1) c').ownBlock = some g → g ≠ j7 := fun g hg => by have := (World.ownsRow.lt O g hg).1; have := Y.1.1; omega); (replace Y := Y.below bb); (replace O := ownK_le O hsz); clear bb hsz; (obtain ⟨n0, n1, n2, n3, n4, n5, n6⟩ := id T.1); (obtain ⟨y0, y1, y2, y3, y4, y5, y6⟩ := id X); (obtain ⟨⟨z0, z1, z2, z3, z4⟩, z5, z6, z7, z8⟩ := id Y)
             (try go_wp2_with fail)
             refine hK.out _ _ ?_ (fun hHeld => ?_)
             ·first | exact ⟨n1, n2, n3⟩ | (simp (maxDischargeDepth := 6) [go_sem, *]; done)
             clear hK K
             (try simp only [Act.put, List.setIfInBounds_toArray, List.set_cons_zero, List.set_cons_succ])
             refine wpAnyH_take (i := 9) (v := ?_) (by rw [List.getElem?_toArray]; rfl) (by kernel_rfl) (by kernel_rfl) (by kernel_rfl) (by intro _ _ _ h; exact h) (Or.inl ⟨by rfl, ?_⟩) (by assumption) ?_
             rotate_left
             ·(intro w hSw; (try dsimp only at hSw); go_simp; all_goals with_reducible rfl)
             (try simp only [Act.put, List.setIfInBounds_toArray, List.set_cons_zero, List.set_cons_succ])
             refine wpAnyH_take (i := 10) (v := ?_) (by rw [List.getElem?_toArray]; rfl) (by kernel_rfl) (by kernel_rfl) (by kernel_rfl) (by intro _ _ _ h; exact h) (Or.inl ⟨by rfl, ?_⟩) (by assumption) ?_
             rotate_left
             ·(intro w hSw; (try dsimp only at hSw); go_simp; all_goals with_reducible rfl)
             (try simp only [Act.put, List.setIfInBounds_toArray, List.set_cons_zero, List.set_cons_succ])
             refine wpAnyH_take (i := 11) (v := ?_) (by rw [List.getElem?_toArray]; rfl) (by kernel_rfl) (by kernel_rfl) (by kernel_rfl) (by intro _ _ _ h; exact h) (Or.inl ⟨by rfl, ?_⟩) (by assumption) ?_
             rotate_left
             ·(intro w hSw; (try dsimp only at hSw); go_simp; all_goals with_reducible rfl)
             (try simp only [Act.put, List.setIfInBounds_toArray, List.set_cons_zero, List.set_cons_succ])
             refine wpAnyH_ready (rs := [14]) (by kernel_rfl) (by simp) ?_
             refine (AllReadyH.cons (by rw [List.getElem?_toArray]; rfl) (fun K hK => ?_) AllReadyH.nil)
             go_simp
             clear n0 n1 n2 n3 n4 n5 n6 y0 y1 y2 y3 y4 y5 y6 z0 z1 z2 z3 z4 z5 z6 z7 z8; (have bb : But j6 v6 (((v6.setCell ⟨j6, 0, none⟩ (.int .i64 ep)).setCell ⟨j6, 1, none⟩ (.int .i64 (us + 1))).setCell ⟨j6, 2, none⟩ (.slice a' (n + 1) c')) := put3_but _ _ _ _ _); (have cc : CurOk (((v6.setCell ⟨j6, 0, none⟩ (.int .i64 ep)).setCell ⟨j6, 1, none⟩ (.int .i64 (us + 1))).setCell ⟨j6, 2, none⟩ (.slice a' (n + 1) c')) B p := CurOk.put3 T.2.2.1 h6p (by omega) _ _ _); (replace T := T.other bb cc h6t hbt H6); (replace X : Bx3 (((v6.setCell ⟨j6, 0, none⟩ (.int .i64 ep)).setCell ⟨j6, 1, none⟩ (.int .i64 (us + 1))).setCell ⟨j6, 2, none⟩ (.slice a' (n + 1) c')) j6 (.int .i64 ep) (.int .i64 (us + 1)) (.slice a' (n + 1) c') := X.set _ _ _); (replace Y := Y.but bb (by omega)); (replace O := own_neK O bb G6); clear bb cc; generalize (((v6.setCell ⟨j6, 0, none⟩ (.int .i64 ep)).setCell ⟨j6, 1, none⟩ (.int .i64 (us + 1))).setCell ⟨j6, 2, none⟩ (.slice a' (n + 1) c')) = v7 at *; (obtain ⟨n0, n1, n2, n3, n4, n5, n6⟩ := id T.1); (obtain ⟨y0, y1, y2, y3, y4, y5, y6⟩ := id X); (obtain ⟨⟨z0, z1, z2, z3, z4⟩, z5, z6, z7, z8⟩ := id Y)
             refine hK.out _ _ ?_ (fun hHeld => ?_)
             ·first | exact ⟨n1, n2, n3⟩ | (simp (maxDischargeDepth := 6) [go_sem, *]; done)
             clear hK K
             (try simp only [Act.put, List.setIfInBounds_toArray, List.set_cons_zero, List.set_cons_succ])
             refine wpAnyH_ready (rs := [15]) (by kernel_rfl) (by simp) ?_
             refine (AllReadyH.cons (by rw [List.getElem?_toArray]; rfl) (fun K hK => ?_) AllReadyH.nil)
             go_simp
             clear n0 n1 n2 n3 n4 n5 n6 y0 y1 y2 y3 y4 y5 y6 z0 z1 z2 z3 z4 z5 z6 z7 z8; (have bb : But j7 v7 ((((v7.setCell ⟨j7, 0, none⟩ (.int .i64 nn)).setCell ⟨j7, 1, none⟩ (.int .i64 x1)).setCell ⟨j7, 2, none⟩ (.int .i64 x2)).setCell ⟨j7, 3, none⟩ (.int .i64 (IntKind.i64.wrap (1 + x3)))) := put4_but _ _ _ _ _ _); (have cc : CurOk ((((v7.setCell ⟨j7, 0, none⟩ (.int .i64 nn)).setCell ⟨j7, 1, none⟩ (.int .i64 x1)).setCell ⟨j7, 2, none⟩ (.int .i64 x2)).setCell ⟨j7, 3, none⟩ (.int .i64 (IntKind.i64.wrap (1 + x3)))) B p := CurOk.put4 T.2.2.1 h7p (by omega) _ _ _ _); (replace T := T.other bb cc h7t hbt H7); (replace X := X.but bb (by omega)); (replace O := own_neK O bb G7); clear bb cc Y; generalize ((((v7.setCell ⟨j7, 0, none⟩ (.int .i64 nn)).setCell ⟨j7, 1, none⟩ (.int .i64 x1)).setCell ⟨j7, 2, none⟩ (.int .i64 x2)).setCell ⟨j7, 3, none⟩ (.int .i64 (IntKind.i64.wrap (1 + x3)))) = v8 at *; (obtain ⟨n0, n1, n2, n3, n4, n5, n6⟩ := id T.1); (obtain ⟨y0, y1, y2, y3, y4, y5, y6⟩ := id X)
             refine hK.out _ _ ?_ (fun hHeld => ?_)
             ·first | exact ⟨n1, n2, n3⟩ | (simp (maxDischargeDepth := 6) [go_sem, *]; done)
             clear hK K
             (try simp only [Act.put, List.setIfInBounds_toArray, List.set_cons_zero, List.set_cons_succ])
             refine wpAnyH_done (by kernel_rfl) ?_ _
             (try go_wp2_with fail)
             go_meet
             case rel => exact ⟨j6, a', c', x1, x2, _, rfl, by omega, ⟨x1l, x1h⟩, X, O, T⟩
           ·go_simp
            clear n0 n1 n2 n3 n4 n5 n6 y0 y1 y2 y3 y4 y5 y6; (have bb := Below.nw v3 (.cells #[.int .i64 0, .int .i64 0, .int .i64 0, .int .i64 0] 43)); (have Y := Bf4.new v3 0 0 0 0 43); (have h7t : bt < v3.heap.size := T.1.1); (have h7p : v3.heap.size ≠ p := by omega); (have H7 : ∀ g, (Value.slice A n c).ownBlock = some g → g ≠ v3.heap.size := fun g hg => by have := (World.ownsRow.lt T.2.1 g hg).2; omega); (have h67 : j6 < v3.heap.size := X.1); (replace X := X.below bb); (replace T := T.below bb); clear bb; generalize v3.heap.size = j7 at *; generalize v3.alloc (.cells #[.int .i64 0, .int .i64 0, .int .i64 0, .int .i64 0] 43) = v4 at *; (obtain ⟨n0, n1, n2, n3, n4, n5, n6⟩ := id T.1); (obtain ⟨y0, y1, y2, y3, y4, y5, y6⟩ := id X); (obtain ⟨⟨z0, z1, z2, z3, z4⟩, z5, z6, z7, z8⟩ := id Y)
            refine hK.out _ _ ?_ (fun hHeld => ?_)
            ·first | exact ⟨n1, n2, n3⟩ | (simp (maxDischargeDepth := 6) [go_sem, *]; done)
            clear hK K
            (try simp only [Act.put, List.setIfInBounds_toArray, List.set_cons_zero, List.set_cons_succ])
            refine wpAnyH_ready (rs := [6]) (by kernel_rfl) (by simp) ?_
            refine (AllReadyH.cons (by rw [List.getElem?_toArray]; rfl) (fun K hK => ?_) AllReadyH.nil)
            go_simp
            refine (l1Below_any B p 4 _ T.2.2.1).mono ?_; rintro e v5 ⟨x3, rfl, x3l, x3h, _, _, cc, bb⟩; clear n0 n1 n2 n3 n4 n5 n6 y0 y1 y2 y3 y4 y5 y6 z0 z1 z2 z3 z4 z5 z6 z7 z8; (replace T := T.but cc bb hp hbt); (replace X := X.but bb h6p); (replace Y := Y.but bb h7p); clear cc bb; (obtain ⟨n0, n1, n2, n3, n4, n5, n6⟩ := id T.1); (obtain ⟨y0, y1, y2, y3, y4, y5, y6⟩ := id X); (obtain ⟨⟨z0, z1, z2, z3, z4⟩, z5, z6, z7, z8⟩ := id Y)
            (try go_wp2_with fail)
            refine hK.out _ _ ?_ (fun hHeld => ?_)
            ·first | exact ⟨n1, n2, n3⟩ | (simp (maxDischargeDepth := 6) [go_sem, *]; done)
            clear hK K
            (try simp only [Act.put, List.setIfInBounds_toArray, List.set_cons_zero, List.set_cons_succ])
            refine wpAnyH_take (i := 7) (v := ?_) (by rw [List.getElem?_toArray]; rfl) (by kernel_rfl) (by kernel_rfl) (by kernel_rfl) (by intro _ _ _ h; exact h) (Or.inl ⟨by rfl, ?_⟩) (by assumption) ?_
            rotate_left
            ·(intro w hSw; (try dsimp only at hSw); go_simp; all_goals with_reducible rfl)
            (try simp only [Act.put, List.setIfInBounds_toArray, List.set_cons_zero, List.set_cons_succ])
            refine wpAnyH_ready (rs := [8]) (by kernel_rfl) (by simp) ?_
            refine (AllReadyH.cons (by rw [List.getElem?_toArray]; rfl) (fun K hK => ?_) AllReadyH.nil)
            go_simp
            refine (l7Put_opt ep us _ _ _ nn A n c M _ (by omega) (FromsO.own T.2.1) hep hus HNN.out).mono ?_; rintro e v6 ⟨a', c', rfl, O, bb⟩; clear n0 n1 n2 n3 n4 n5 n6 y0 y1 y2 y3 y4 y5 y6 z0 z1 z2 z3 z4 z5 z6 z7 z8; (have hsz : w.heap.size + 1 ≤ v5.heap.size := Nat.le_of_lt (Nat.lt_of_le_of_lt hbt T.1.1)); (replace T := T.below bb); (have G6 : ∀ g, (Value.slice a' (n + 1) c').ownBlock = some g → g ≠ j6 := fun g hg => by have := (World.ownsRow.lt O g hg).1; have := X.1; omega); (replace X := X.below bb); (have G7 : ∀ g, (Value.slice a' (n + 1) c').ownBlock = some g → g ≠ j7 := fun g hg => by have := (World.ownsRow.lt O g hg).1; have := Y.1.1; omega); (replace Y := Y.below bb); (replace O := ownK_le O hsz); clear bb hsz; (obtain ⟨n0, n1, n2, n3, n4, n5, n6⟩ := id T.1); (obtain ⟨y0, y1, y2, y3, y4, y5, y6⟩ := id X); (obtain ⟨⟨z0, z1, z2, z3, z4⟩, z5, z6, z7, z8⟩ := id Y)
            (try go_wp2_with fail)
            refine hK.out _ _ ?_ (fun hHeld => ?_)
            ·first | exact ⟨n1, n2, n3⟩ | (simp (maxDischargeDepth := 6) [go_sem, *]; done)
            clear hK K
            (try simp only [Act.put, List.setIfInBounds_toArray, List.set_cons_zero, List.set_cons_succ])
            refine wpAnyH_take (i := 9) (v := ?_) (by rw [List.getElem?_toArray]; rfl) (by kernel_rfl) (by kernel_rfl) (by kernel_rfl) (by intro _ _ _ h; exact h) (Or.inl ⟨by rfl, ?_⟩) (by assumption) ?_
            rotate_left
            ·(intro w hSw; (try dsimp only at hSw); go_simp; all_goals with_reducible rfl)
            (try simp only [Act.put, List.setIfInBounds_toArray, List.set_cons_zero, List.set_cons_succ])
            refine wpAnyH_take (i := 10) (v := ?_) (by rw [List.getElem?_toArray]; rfl) (by kernel_rfl) (by kernel_rfl) (by kernel_rfl) (by intro _ _ _ h; exact h) (Or.inl ⟨by rfl, ?_⟩) (by assumption) ?_
            rotate_left
            ·(intro w hSw; (try dsimp only at hSw); go_simp; all_goals with_reducible rfl)
            (try simp only [Act.put, List.setIfInBounds_toArray, List.set_cons_zero, List.set_cons_succ])
            refine wpAnyH_take (i := 11) (v := ?_) (by rw [List.getElem?_toArray]; rfl) (by kernel_rfl) (by kernel_rfl) (by kernel_rfl) (by intro _ _ _ h; exact h) (Or.inl ⟨by rfl, ?_⟩) (by assumption) ?_
            rotate_left
            ·(intro w hSw; (try dsimp only at hSw); go_simp; all_goals with_reducible rfl)
            (try simp only [Act.put, List.setIfInBounds_toArray, List.set_cons_zero, List.set_cons_succ])
            refine wpAnyH_ready (rs := [14]) (by kernel_rfl) (by simp) ?_
            refine (AllReadyH.cons (by rw [List.getElem?_toArray]; rfl) (fun K hK => ?_) AllReadyH.nil)
            go_simp
            clear n0 n1 n2 n3 n4 n5 n6 y0 y1 y2 y3 y4 y5 y6 z0 z1 z2 z3 z4 z5 z6 z7 z8; (have bb : But j6 v6 (((v6.setCell ⟨j6, 0, none⟩ (.int .i64 ep)).setCell ⟨j6, 1, none⟩ (.int .i64 (us + 1))).setCell ⟨j6, 2, none⟩ (.slice a' (n + 1) c')) := put3_but _ _ _ _ _); (have cc : CurOk (((v6.setCell ⟨j6, 0, none⟩ (.int .i64 ep)).setCell ⟨j6, 1, none⟩ (.int .i64 (us + 1))).setCell ⟨j6, 2, none⟩ (.slice a' (n + 1) c')) B p := CurOk.put3 T.2.2.1 h6p (by omega) _ _ _); (replace T := T.other bb cc h6t hbt H6); (replace X : Bx3 (((v6.setCell ⟨j6, 0, none⟩ (.int .i64 ep)).setCell ⟨j6, 1, none⟩ (.int .i64 (us + 1))).setCell ⟨j6, 2, none⟩ (.slice a' (n + 1) c')) j6 (.int .i64 ep) (.int .i64 (us + 1)) (.slice a' (n + 1) c') := X.set _ _ _); (replace Y := Y.but bb (by omega)); (replace O := own_neK O bb G6); clear bb cc; generalize (((v6.setCell ⟨j6, 0, none⟩ (.int .i64 ep)).setCell ⟨j6, 1, none⟩ (.int .i64 (us + 1))).setCell ⟨j6, 2, none⟩ (.slice a' (n + 1) c')) = v7 at *; (obtain ⟨n0, n1, n2, n3, n4, n5, n6⟩ := id T.1); (obtain ⟨y0, y1, y2, y3, y4, y5, y6⟩ := id X); (obtain ⟨⟨z0, z1, z2, z3, z4⟩, z5, z6, z7, z8⟩ := id Y)
            refine hK.out _ _ ?_ (fun hHeld => ?_)
            ·first | exact ⟨n1, n2, n3⟩ | (simp (maxDischargeDepth := 6) [go_sem, *]; done)
            clear hK K
            (try simp only [Act.put, List.setIfInBounds_toArray, List.set_cons_zero, List.set_cons_succ])
            refine wpAnyH_ready (rs := [15]) (by kernel_rfl) (by simp) ?_
            refine (AllReadyH.cons (by rw [List.getElem?_toArray]; rfl) (fun K hK => ?_) AllReadyH.nil)
            go_simp
            clear n0 n1 n2 n3 n4 n5 n6 y0 y1 y2 y3 y4 y5 y6 z0 z1 z2 z3 z4 z5 z6 z7 z8; (have bb : But j7 v7 ((((v7.setCell ⟨j7, 0, none⟩ (.int .i64 nn)).setCell ⟨j7, 1, none⟩ (.int .i64 x1)).setCell ⟨j7, 2, none⟩ (.int .i64 x2)).setCell ⟨j7, 3, none⟩ (.int .i64 (IntKind.i64.wrap (1 + x3)))) := put4_but _ _ _ _ _ _); (have cc : CurOk ((((v7.setCell ⟨j7, 0, none⟩ (.int .i64 nn)).setCell ⟨j7, 1, none⟩ (.int .i64 x1)).setCell ⟨j7, 2, none⟩ (.int .i64 x2)).setCell ⟨j7, 3, none⟩ (.int .i64 (IntKind.i64.wrap (1 + x3)))) B p := CurOk.put4 T.2.2.1 h7p (by omega) _ _ _ _); (replace T := T.other bb cc h7t hbt H7); (replace X := X.but bb (by omega)); (replace O := own_neK O bb G7); clear bb cc Y; generalize ((((v7.setCell ⟨j7, 0, none⟩ (.int .i64 nn)).setCell ⟨j7, 1, none⟩ (.int .i64 x1)).setCell ⟨j7, 2, none⟩ (.int .i64 x2)).setCell ⟨j7, 3, none⟩ (.int .i64 (IntKind.i64.wrap (1 + x3)))) = v8 at *; (obtain ⟨n0, n1, n2, n3, n4, n5, n6⟩ := id T.1); (obtain ⟨y0, y1, y2, y3, y4, y5, y6⟩ := id X)
            refine hK.out _ _ ?_ (fun hHeld => ?_)
            ·first | exact ⟨n1, n2, n3⟩ | (simp (maxDischargeDepth := 6) [go_sem, *]; done)
            clear hK K
            (try simp only [Act.put, List.setIfInBounds_toArray, List.set_cons_zero, List.set_cons_succ])
            refine wpAnyH_done (by kernel_rfl) ?_ _
            (try go_wp2_with fail)
            go_meet
            case rel => exact ⟨j6, a', c', x1, x2, _, rfl, by omega, ⟨x1l, x1h⟩, X, O, T⟩
          ·go_simp
           clear n0 n1 n2 n3 n4 n5 n6 y0 y1 y2 y3 y4 y5 y6; (have bb := Below.nw v2 (.cells #[.int .i64 0, .int .i64 0, .int .i64 0, .int .i64 0] 43)); (have Y := Bf4.new v2 0 0 0 0 43); (have h7t : bt < v2.heap.size := T.1.1); (have h7p : v2.heap.size ≠ p := by omega); (have H7 : ∀ g, (Value.slice A n c).ownBlock = some g → g ≠ v2.heap.size := fun g hg => by have := (World.ownsRow.lt T.2.1 g hg).2; omega); (have h67 : j6 < v2.heap.size := X.1); (replace X := X.below bb); (replace T := T.below bb); clear bb; generalize v2.heap.size = j7 at *; generalize v2.alloc (.cells #[.int .i64 0, .int .i64 0, .int .i64 0, .int .i64 0] 43) = v3 at *; (obtain ⟨n0, n1, n2, n3, n4, n5, n6⟩ := id T.1); (obtain ⟨y0, y1, y2, y3, y4, y5, y6⟩ := id X); (obtain ⟨⟨z0, z1, z2, z3, z4⟩, z5, z6, z7, z8⟩ := id Y)
           refine hK.out _ _ ?_ (fun hHeld => ?_)
           ·first | exact ⟨n1, n2, n3⟩ | (simp (maxDischargeDepth := 6) [go_sem, *]; done)
           clear hK K
           (try simp only [Act.put, List.setIfInBounds_toArray, List.set_cons_zero, List.set_cons_succ])
           refine wpAnyH_ready (rs := [4]) (by kernel_rfl) (by simp) ?_
           refine (AllReadyH.cons (by rw [List.getElem?_toArray]; rfl) (fun K hK => ?_) AllReadyH.nil)
           go_simp
           refine (l1Below_any B p 60 _ T.2.2.1).mono ?_; rintro e v4 ⟨x2, rfl, x2l, x2h, _, _, cc, bb⟩; clear n0 n1 n2 n3 n4 n5 n6 y0 y1 y2 y3 y4 y5 y6 z0 z1 z2 z3 z4 z5 z6 z7 z8; (replace T := T.but cc bb hp hbt); (replace X := X.but bb h6p); (replace Y := Y.but bb h7p); clear cc bb; (obtain ⟨n0, n1, n2, n3, n4, n5, n6⟩ := id T.1); (obtain ⟨y0, y1, y2, y3, y4, y5, y6⟩ := id X); (obtain ⟨⟨z0, z1, z2, z3, z4⟩, z5, z6, z7, z8⟩ := id Y)
           (try go_wp2_with fail)
           refine hK.out _ _ ?_ (fun hHeld => ?_)
           ·first | exact ⟨n1, n2, n3⟩ | (simp (maxDischargeDepth := 6) [go_sem, *]; done)
           clear hK K
           (try simp only [Act.put, List.setIfInBounds_toArray, List.set_cons_zero, List.set_cons_succ])
           refine wpAnyH_ready (rs := [6]) (by kernel_rfl) (by simp) ?_
           refine (AllReadyH.cons (by rw [List.getElem?_toArray]; rfl) (fun K hK => ?_) AllReadyH.nil)
           go_simp
           refine (l1Below_any B p 4 _ T.2.2.1).mono ?_; rintro e v5 ⟨x3, rfl, x3l, x3h, _, _, cc, bb⟩; clear n0 n1 n2 n3 n4 n5 n6 y0 y1 y2 y3 y4 y5 y6 z0 z1 z2 z3 z4 z5 z6 z7 z8; (replace T := T.but cc bb hp hbt); (replace X := X.but bb h6p); (replace Y := Y.but bb h7p); clear cc bb; (obtain ⟨n0, n1, n2, n3, n4, n5, n6⟩ := id T.1); (obtain ⟨y0, y1, y2, y3, y4, y5, y6⟩ := id X); (obtain ⟨⟨z0, z1, z2, z3, z4⟩, z5, z6, z7, z8⟩ := id Y)
           (try go_wp2_with fail)
           refine hK.out _ _ ?_ (fun hHeld => ?_)
           ·first | exact ⟨n1, n2, n3⟩ | (simp (maxDischargeDepth := 6) [go_sem, *]; done)
           clear hK K
           (try simp only [Act.put, List.setIfInBounds_toArray, List.set_cons_zero, List.set_cons_succ])
           refine wpAnyH_take (i := 7) (v := ?_) (by rw [List.getElem?_toArray]; rfl) (by kernel_rfl) (by kernel_rfl) (by kernel_rfl) (by intro _ _ _ h; exact h) (Or.inl ⟨by rfl, ?_⟩) (by assumption) ?_
           rotate_left
           ·(intro w hSw; (try dsimp only at hSw); go_simp; all_goals with_reducible rfl)
           (try simp only [Act.put, List.setIfInBounds_toArray, List.set_cons_zero, List.set_cons_succ])
           refine wpAnyH_ready (rs := [8]) (by kernel_rfl) (by simp) ?_
           refine (AllReadyH.cons (by rw [List.getElem?_toArray]; rfl) (fun K hK => ?_) AllReadyH.nil)
           go_simp
           refine (l7Put_opt ep us _ _ _ nn A n c M _ (by omega) (FromsO.own T.2.1) hep hus HNN.out).mono ?_; rintro e v6 ⟨a', c', rfl, O, bb⟩; clear n0 n1 n2 n3 n4 n5 n6 y0 y1 y2 y3 y4 y5 y6 z0 z1 z2 z3 z4 z5 z6 z7 z8; (have hsz : w.heap.size + 1 ≤ v5.heap.size := Nat.le_of_lt (Nat.lt_of_le_of_lt hbt T.1.1)); (replace T := T.below bb); (have G6 : ∀ g, (Value.slice a' (n + 1) c').ownBlock = some g → g ≠ j6 := fun g hg => by have := (World.ownsRow.lt O g hg).1; have := X.1; omega); (replace X := X.below bb); (have G7 : ∀ g, (Value.slice a' (n + 1) c').ownBlock = some g → g ≠ j7 := fun g hg => by have := (World.ownsRow.lt O g hg).1; have := Y.1.1; omega); (replace Y := Y.below bb); (replace O := ownK_le O hsz); clear bb hsz; (obtain ⟨n0, n1, n2, n3, n4, n5, n6⟩ := id T.1); (obtain ⟨y0, y1, y2, y3, y4, y5, y6⟩ := id X); (obtain ⟨⟨z0, z1, z2, z3, z4⟩, z5, z6, z7, z8⟩ := id Y)
           (try go_wp2_with fail)
           refine hK.out _ _ ?_ (fun hHeld => ?_)
           ·first | exact ⟨n1, n2, n3⟩ | (simp (maxDischargeDepth := 6) [go_sem, *]; done)
           clear hK K
           (try simp only [Act.put, List.setIfInBounds_toArray, List.set_cons_zero, List.set_cons_succ])
           refine wpAnyH_take (i := 9) (v := ?_) (by rw [List.getElem?_toArray]; rfl) (by kernel_rfl) (by kernel_rfl) (by kernel_rfl) (by intro _ _ _ h; exact h) (Or.inl ⟨by rfl, ?_⟩) (by assumption) ?_
           rotate_left
           ·(intro w hSw; (try dsimp only at hSw); go_simp; all_goals with_reducible rfl)
           (try simp only [Act.put, List.setIfInBounds_toArray, List.set_cons_zero, List.set_cons_succ])
           refine wpAnyH_take (i := 10) (v := ?_) (by rw [List.getElem?_toArray]; rfl) (by kernel_rfl) (by kernel_rfl) (by kernel_rfl) (by intro _ _ _ h; exact h) (Or.inl ⟨by rfl, ?_⟩) (by assumption) ?_
           rotate_left
           ·(intro w hSw; (try dsimp only at hSw); go_simp; all_goals with_reducible rfl)
           (try simp only [Act.put, List.setIfInBounds_toArray, List.set_cons_zero, List.set_cons_succ])
           refine wpAnyH_take (i := 11) (v := ?_) (by rw [List.getElem?_toArray]; rfl) (by kernel_rfl) (by kernel_rfl) (by kernel_rfl) (by intro _ _ _ h; exact h) (Or.inl ⟨by rfl, ?_⟩) (by assumption) ?_
           rotate_left
           ·(intro w hSw; (try dsimp only at hSw); go_simp; all_goals with_reducible rfl)
           (try simp only [Act.put, List.setIfInBounds_toArray, List.set_cons_zero, List.set_cons_succ])
           refine wpAnyH_ready (rs := [14]) (by kernel_rfl) (by simp) ?_
           refine (AllReadyH.cons (by rw [List.getElem?_toArray]; rfl) (fun K hK => ?_) AllReadyH.nil)
           go_simp
           clear n0 n1 n2 n3 n4 n5 n6 y0 y1 y2 y3 y4 y5 y6 z0 z1 z2 z3 z4 z5 z6 z7 z8; (have bb : But j6 v6 (((v6.setCell ⟨j6, 0, none⟩ (.int .i64 ep)).setCell ⟨j6, 1, none⟩ (.int .i64 (us + 1))).setCell ⟨j6, 2, none⟩ (.slice a' (n + 1) c')) := put3_but _ _ _ _ _); (have cc : CurOk (((v6.setCell ⟨j6, 0, none⟩ (.int .i64 ep)).setCell ⟨j6, 1, none⟩ (.int .i64 (us + 1))).setCell ⟨j6, 2, none⟩ (.slice a' (n + 1) c')) B p := CurOk.put3 T.2.2.1 h6p (by omega) _ _ _); (replace T := T.other bb cc h6t hbt H6); (replace X : Bx3 (((v6.setCell ⟨j6, 0, none⟩ (.int .i64 ep)).setCell ⟨j6, 1, none⟩ (.int .i64 (us + 1))).setCell ⟨j6, 2, none⟩ (.slice a' (n + 1) c')) j6 (.int .i64 ep) (.int .i64 (us + 1)) (.slice a' (n + 1) c') := X.set _ _ _); (replace Y := Y.but bb (by omega)); (replace O := own_neK O bb G6); clear bb cc; generalize (((v6.setCell ⟨j6, 0, none⟩ (.int .i64 ep)).setCell ⟨j6, 1, none⟩ (.int .i64 (us + 1))).setCell ⟨j6, 2, none⟩ (.slice a' (n + 1) c')) = v7 at *; (obtain ⟨n0, n1, n2, n3, n4, n5, n6⟩ := id T.1); (obtain ⟨y0, y1, y2, y3, y4, y5, y6⟩ := id X); (obtain ⟨⟨z0, z1, z2, z3, z4⟩, z5, z6, z7, z8⟩ := id Y)
           refine hK.out _ _ ?_ (fun hHeld => ?_)
           ·first | exact ⟨n1, n2, n3⟩ | (simp (maxDischargeDepth := 6) [go_sem, *]; done)
           clear hK K
           (try simp only [Act.put, List.setIfInBounds_toArray, List.set_cons_zero, List.set_cons_succ])
           refine wpAnyH_ready (rs := [15]) (by kernel_rfl) (by simp) ?_
           refine (AllReadyH.cons (by rw [List.getElem?_toArray]; rfl) (fun K hK => ?_) AllReadyH.nil)
           go_simp
           clear n0 n1 n2 n3 n4 n5 n6 y0 y1 y2 y3 y4 y5 y6 z0 z1 z2 z3 z4 z5 z6 z7 z8; (have bb : But j7 v7 ((((v7.setCell ⟨j7, 0, none⟩ (.int .i64 nn)).setCell ⟨j7, 1, none⟩ (.int .i64 x1)).setCell ⟨j7, 2, none⟩ (.int .i64 x2)).setCell ⟨j7, 3, none⟩ (.int .i64 (IntKind.i64.wrap (1 + x3)))) := put4_but _ _ _ _ _ _); (have cc : CurOk ((((v7.setCell ⟨j7, 0, none⟩ (.int .i64 nn)).setCell ⟨j7, 1, none⟩ (.int .i64 x1)).setCell ⟨j7, 2, none⟩ (.int .i64 x2)).setCell ⟨j7, 3, none⟩ (.int .i64 (IntKind.i64.wrap (1 + x3)))) B p := CurOk.put4 T.2.2.1 h7p (by omega) _ _ _ _); (replace T := T.other bb cc h7t hbt H7); (replace X := X.but bb (by omega)); (replace O := own_neK O bb G7); clear bb cc Y; generalize ((((v7.setCell ⟨j7, 0, none⟩ (.int .i64 nn)).setCell ⟨j7, 1, none⟩ (.int .i64 x1)).setCell ⟨j7, 2, none⟩ (.int .i64 x2)).setCell ⟨j7, 3, none⟩ (.int .i64 (IntKind.i64.wrap (1 + x3)))) = v8 at *; (obtain ⟨n0, n1, n2, n3, n4, n5, n6⟩ := id T.1); (obtain ⟨y0, y1, y2, y3, y4, y5, y6⟩ := id X)
           refine hK.out _ _ ?_ (fun hHeld => ?_)
           ·first | exact ⟨n1, n2, n3⟩ | (simp (maxDischargeDepth := 6) [go_sem, *]; done)
           clear hK K
           (try simp only [Act.put, List.setIfInBounds_toArray, List.set_cons_zero, List.set_cons_succ])
           refine wpAnyH_done (by kernel_rfl) ?_ _
           (try go_wp2_with fail)
           go_meet
           case rel => exact ⟨j6, a', c', x1, x2, _, rfl, by omega, ⟨x1l, x1h⟩, X, O, T⟩
         ·go_simp
          clear n0 n1 n2 n3 n4 n5 n6; (have bb := Below.nw v1 (.cells #[.int .i64 0, .int .i64 0, .int .i64 0, .int .i64 0] 43)); (have Y := Bf4.new v1 0 0 0 0 43); (have h7t : bt < v1.heap.size := T.1.1); (have h7p : v1.heap.size ≠ p := by omega); (have H7 : ∀ g, (Value.slice A n c).ownBlock = some g → g ≠ v1.heap.size := fun g hg => by have := (World.ownsRow.lt T.2.1 g hg).2; omega); (replace T := T.below bb); clear bb; generalize v1.heap.size = j7 at *; generalize v1.alloc (.cells #[.int .i64 0, .int .i64 0, .int .i64 0, .int .i64 0] 43) = v2 at *; (obtain ⟨n0, n1, n2, n3, n4, n5, n6⟩ := id T.1); (obtain ⟨⟨z0, z1, z2, z3, z4⟩, z5, z6, z7, z8⟩ := id Y)
          refine hK.out _ _ ?_ (fun hHeld => ?_)
          ·first | exact ⟨n1, n2, n3⟩ | (simp (maxDischargeDepth := 6) [go_sem, *]; done)
          clear hK K
          (try simp only [Act.put, List.setIfInBounds_toArray, List.set_cons_zero, List.set_cons_succ])
          refine wpAnyH_ready (rs := [4, 12]) (by kernel_rfl) (by simp) ?_
          refine (AllReadyH.cons (by rw [List.getElem?_toArray]; rfl) (fun K hK => ?_) (AllReadyH.cons (by rw [List.getElem?_toArray]; rfl) (fun K hK => ?_) AllReadyH.nil))
          ·go_simp
           refine (l1Below_any B p 60 _ T.2.2.1).mono ?_; rintro e v3 ⟨x2, rfl, x2l, x2h, _, _, cc, bb⟩; clear n0 n1 n2 n3 n4 n5 n6 z0 z1 z2 z3 z4 z5 z6 z7 z8; (replace T := T.but cc bb hp hbt); (replace Y := Y.but bb h7p); clear cc bb; (obtain ⟨n0, n1, n2, n3, n4, n5, n6⟩ := id T.1); (obtain ⟨⟨z0, z1, z2, z3, z4⟩, z5, z6, z7, z8⟩ := id Y)
           (try go_wp2_with fail)
           refine hK.out _ _ ?_ (fun hHeld => ?_)
           ·first | exact ⟨n1, n2, n3⟩ | (simp (maxDischargeDepth := 6) [go_sem, *]; done)
           clear hK K
           (try simp only [Act.put, List.setIfInBounds_toArray, List.set_cons_zero, List.set_cons_succ])
           refine wpAnyH_ready (rs := [6, 12]) (by kernel_rfl) (by simp) ?_
           refine (AllReadyH.cons (by rw [List.getElem?_toArray]; rfl) (fun K hK => ?_) (AllReadyH.cons (by rw [List.getElem?_toArray]; rfl) (fun K hK => ?_) AllReadyH.nil))
           ·go_simp
            refine (l1Below_any B p 4 _ T.2.2.1).mono ?_; rintro e v4 ⟨x3, rfl, x3l, x3h, _, _, cc, bb⟩; clear n0 n1 n2 n3 n4 n5 n6 z0 z1 z2 z3 z4 z5 z6 z7 z8; (replace T := T.but cc bb hp hbt); (replace Y := Y.but bb h7p); clear cc bb; (obtain ⟨n0, n1, n2, n3, n4, n5, n6⟩ := id T.1); (obtain ⟨⟨z0, z1, z2, z3, z4⟩, z5, z6, z7, z8⟩ := id Y)
            (try go_wp2_with fail)
            refine hK.out _ _ ?_ (fun hHeld => ?_)
            ·first | exact ⟨n1, n2, n3⟩ | (simp (maxDischargeDepth := 6) [go_sem, *]; done)
            clear hK K
            (try simp only [Act.put, List.setIfInBounds_toArray, List.set_cons_zero, List.set_cons_succ])
            refine wpAnyH_take (i := 7) (v := ?_) (by rw [List.getElem?_toArray]; rfl) (by kernel_rfl) (by kernel_rfl) (by kernel_rfl) (by intro _ _ _ h; exact h) (Or.inl ⟨by rfl, ?_⟩) (by assumption) ?_
            rotate_left
            ·(intro w hSw; (try dsimp only at hSw); go_simp; all_goals with_reducible rfl)
            (try simp only [Act.put, List.setIfInBounds_toArray, List.set_cons_zero, List.set_cons_succ])
            refine wpAnyH_ready (rs := [8, 12]) (by kernel_rfl) (by simp) ?_
            refine (AllReadyH.cons (by rw [List.getElem?_toArray]; rfl) (fun K hK => ?_) (AllReadyH.cons (by rw [List.getElem?_toArray]; rfl) (fun K hK => ?_) AllReadyH.nil))
            ·go_simp
             refine (l7Put_opt ep us _ _ _ nn A n c M _ (by omega) (FromsO.own T.2.1) hep hus HNN.out).mono ?_; rintro e v5 ⟨a', c', rfl, O, bb⟩; clear n0 n1 n2 n3 n4 n5 n6 z0 z1 z2 z3 z4 z5 z6 z7 z8; (have hsz : w.heap.size + 1 ≤ v4.heap.size := Nat.le_of_lt (Nat.lt_of_le_of_lt hbt T.1.1)); (replace T := T.below bb); (have G7 : ∀ g, (Value.slice a' (n + 1) c').ownBlock = some g → g ≠ j7 := fun g hg => by have := (World.ownsRow.lt O g hg).1; have := Y.1.1; omega); (replace Y := Y.below bb); (replace O := ownK_le O hsz); clear bb hsz; (obtain ⟨n0, n1, n2, n3, n4, n5, n6⟩ := id T.1); (obtain ⟨⟨z0, z1, z2, z3, z4⟩, z5, z6, z7, z8⟩ := id Y)
             (try go_wp2_with fail)
             refine hK.out _ _ ?_ (fun hHeld => ?_)
             ·first | exact ⟨n1, n2, n3⟩ | (simp (maxDischargeDepth := 6) [go_sem, *]; done)
             clear hK K
             (try simp only [Act.put, List.setIfInBounds_toArray, List.set_cons_zero, List.set_cons_succ])
             refine wpAnyH_take (i := 9) (v := ?_) (by rw [List.getElem?_toArray]; rfl) (by kernel_rfl) (by kernel_rfl) (by kernel_rfl) (by intro _ _ _ h; exact h) (Or.inl ⟨by rfl, ?_⟩) (by assumption) ?_
             rotate_left
             ·(intro w hSw; (try dsimp only at hSw); go_simp; all_goals with_reducible rfl)
             (try simp only [Act.put, List.setIfInBounds_toArray, List.set_cons_zero, List.set_cons_succ])
             refine wpAnyH_take (i := 10) (v := ?_) (by rw [List.getElem?_toArray]; rfl) (by kernel_rfl) (by kernel_rfl) (by kernel_rfl) (by intro _ _ _ h; exact h) (Or.inl ⟨by rfl, ?_⟩) (by assumption) ?_
             rotate_left
             ·(intro w hSw; (try dsimp only at hSw); go_simp; all_goals with_reducible rfl)
             (try simp only [Act.put, List.setIfInBounds_toArray, List.set_cons_zero, List.set_cons_succ])
             refine wpAnyH_take (i := 11) (v := ?_) (by rw [List.getElem?_toArray]; rfl) (by kernel_rfl) (by kernel_rfl) (by kernel_rfl) (by intro _ _ _ h; exact h) (Or.inl ⟨by rfl, ?_⟩) (by assumption) ?_
             rotate_left
             ·(intro w hSw; (try dsimp only at hSw); go_simp; all_goals with_reducible rfl)
             (try simp only [Act.put, List.setIfInBounds_toArray, List.set_cons_zero, List.set_cons_succ])
             refine wpAnyH_ready (rs := [12]) (by kernel_rfl) (by simp) ?_
             refine (AllReadyH.cons (by rw [List.getElem?_toArray]; rfl) (fun K hK => ?_) AllReadyH.nil)
             go_simp
             clear n0 n1 n2 n3 n4 n5 n6 z0 z1 z2 z3 z4 z5 z6 z7 z8; (have bb := Below.nw v5 (.cells #[.int .i64 0, .int .i64 0, .slice none 0 0] 39)); (have X := Bx3.new v5 (.int .i64 0) (.int .i64 0) (.slice none 0 0) 39); (have h6t : bt < v5.heap.size := T.1.1); (have h6p : v5.heap.size ≠ p := by omega); (have H6 : ∀ g, (Value.slice A n c).ownBlock = some g → g ≠ v5.heap.size := fun g hg => by have := (World.ownsRow.lt T.2.1 g hg).2; omega); (have h67 : j7 < v5.heap.size := Y.1.1); (replace Y := Y.below bb); (have G6 : ∀ g, (Value.slice a' (n + 1) c').ownBlock = some g → g ≠ v5.heap.size := fun g hg => by have := (World.ownsRow.lt O g hg).2; omega); (replace O := own_belK' O bb); (replace T := T.below bb); clear bb; generalize v5.heap.size = j6 at *; generalize v5.alloc (.cells #[.int .i64 0, .int .i64 0, .slice none 0 0] 39) = v6 at *; (obtain ⟨n0, n1, n2, n3, n4, n5, n6⟩ := id T.1); (obtain ⟨y0, y1, y2, y3, y4, y5, y6⟩ := id X); (obtain ⟨⟨z0, z1, z2, z3, z4⟩, z5, z6, z7, z8⟩ := id Y)
             refine hK.out _ _ ?_ (fun hHeld => ?_)
             ·first | exact ⟨n1, n2, n3⟩ | (simp (maxDischargeDepth := 6) [go_sem, *]; done)
             clear hK K
             (try simp only [Act.put, List.setIfInBounds_toArray, List.set_cons_zero, List.set_cons_succ])
             refine wpAnyH_ready (rs := [14]) (by kernel_rfl) (by simp) ?_
             refine (AllReadyH.cons (by rw [List.getElem?_toArray]; rfl) (fun K hK => ?_) AllReadyH.nil)
             go_simp
             clear n0 n1 n2 n3 n4 n5 n6 y0 y1 y2 y3 y4 y5 y6 z0 z1 z2 z3 z4 z5 z6 z7 z8; (have bb : But j6 v6 (((v6.setCell ⟨j6, 0, none⟩ (.int .i64 ep)).setCell ⟨j6, 1, none⟩ (.int .i64 (us + 1))).setCell ⟨j6, 2, none⟩ (.slice a' (n + 1) c')) := put3_but _ _ _ _ _); (have cc : CurOk (((v6.setCell ⟨j6, 0, none⟩ (.int .i64 ep)).setCell ⟨j6, 1, none⟩ (.int .i64 (us + 1))).setCell ⟨j6, 2, none⟩ (.slice a' (n + 1) c')) B p := CurOk.put3 T.2.2.1 h6p (by omega) _ _ _); (replace T := T.other bb cc h6t hbt H6); (replace X : Bx3 (((v6.setCell ⟨j6, 0, none⟩ (.int .i64 ep)).setCell ⟨j6, 1, none⟩ (.int .i64 (us + 1))).setCell ⟨j6, 2, none⟩ (.slice a' (n + 1) c')) j6 (.int .i64 ep) (.int .i64 (us + 1)) (.slice a' (n + 1) c') := X.set _ _ _); (replace Y := Y.but bb (by omega)); (replace O := own_neK O bb G6); clear bb cc; generalize (((v6.setCell ⟨j6, 0, none⟩ (.int .i64 ep)).setCell ⟨j6, 1, none⟩ (.int .i64 (us + 1))).setCell ⟨j6, 2, none⟩ (.slice a' (n + 1) c')) = v7 at *; (obtain ⟨n0, n1, n2, n3, n4, n5, n6⟩ := id T.1); (obtain ⟨y0, y1, y2, y3, y4, y5, y6⟩ := id X); (obtain ⟨⟨z0, z1, z2, z3, z4⟩, z5, z6, z7, z8⟩ := id Y)
             refine hK.out _ _ ?_ (fun hHeld => ?_)
             ·first | exact ⟨n1, n2, n3⟩ | (simp (maxDischargeDepth := 6) [go_sem, *]; done)
             clear hK K
             (try simp only [Act.put, List.setIfInBounds_toArray, List.set_cons_zero, List.set_cons_succ])
             refine wpAnyH_ready (rs := [15]) (by kernel_rfl) (by simp) ?_
             refine (AllReadyH.cons (by rw [List.getElem?_toArray]; rfl) (fun K hK => ?_) AllReadyH.nil)
             go_simp
             clear n0 n1 n2 n3 n4 n5 n6 y0 y1 y2 y3 y4 y5 y6 z0 z1 z2 z3 z4 z5 z6 z7 z8; (have bb : But j7 v7 ((((v7.setCell ⟨j7, 0, none⟩ (.int .i64 nn)).setCell ⟨j7, 1, none⟩ (.int .i64 x1)).setCell ⟨j7, 2, none⟩ (.int .i64 x2)).setCell ⟨j7, 3, none⟩ (.int .i64 (IntKind.i64.wrap (1 + x3)))) := put4_but _ _ _ _ _ _); (have cc : CurOk ((((v7.setCell ⟨j7, 0, none⟩ (.int .i64 nn)).setCell ⟨j7, 1, none⟩ (.int .i64 x1)).setCell ⟨j7, 2, none⟩ (.int .i64 x2)).setCell ⟨j7, 3, none⟩ (.int .i64 (IntKind.i64.wrap (1 + x3)))) B p := CurOk.put4 T.2.2.1 h7p (by omega) _ _ _ _); (replace T := T.other bb cc h7t hbt H7); (replace X := X.but bb (by omega)); (replace O := own_neK O bb G7); clear bb cc Y; generalize ((((v7.setCell ⟨j7, 0, none⟩ (.int .i64 nn)).setCell ⟨j7, 1, none⟩ (.int .i64 x1)).setCell ⟨j7, 2, none⟩ (.int .i64 x2)).setCell ⟨j7, 3, none⟩ (.int .i64 (IntKind.i64.wrap (1 + x3)))) = v8 at *; (obtain ⟨n0, n1, n2, n3, n4, n5, n6⟩ := id T.1); (obtain ⟨y0, y1, y2, y3, y4, y5, y6⟩ := id X)
             refine hK.out _ _ ?_ (fun hHeld => ?_)
             ·first | exact ⟨n1, n2, n3⟩ | (simp (maxDischargeDepth := 6) [go_sem, *]; done)
             clear hK K
             (try simp only [Act.put, List.setIfInBounds_toArray, List.set_cons_zero, List.set_cons_succ])
             refine wpAnyH_done (by kernel_rfl) ?_ _
             (try go_wp2_with fail)
             go_meet
             case rel => exact ⟨j6, a', c', x1, x2, _, rfl, by omega, ⟨x1l, x1h⟩, X, O, T⟩
            ·go_simp
             clear n0 n1 n2 n3 n4 n5 n6 z0 z1 z2 z3 z4 z5 z6 z7 z8; (have bb := Below.nw v4 (.cells #[.int .i64 0, .int .i64 0, .slice none 0 0] 39)); (have X := Bx3.new v4 (.int .i64 0) (.int .i64 0) (.slice none 0 0) 39); (have h6t : bt < v4.heap.size := T.1.1); (have h6p : v4.heap.size ≠ p := by omega); (have H6 : ∀ g, (Value.slice A n c).ownBlock = some g → g ≠ v4.heap.size := fun g hg => by have := (World.ownsRow.lt T.2.1 g hg).2; omega); (have h67 : j7 < v4.heap.size := Y.1.1); (replace Y := Y.below bb); (replace T := T.below bb); clear bb; generalize v4.heap.size = j6 at *; generalize v4.alloc (.cells #[.int .i64 0, .int .i64 0, .slice none 0 0] 39) = v5 at *; (obtain ⟨n0, n1, n2, n3, n4, n5, n6⟩ := id T.1); (obtain ⟨y0, y1, y2, y3, y4, y5, y6⟩ := id X); (obtain ⟨⟨z0, z1, z2, z3, z4⟩, z5, z6, z7, z8⟩ := id Y)
             refine hK.out _ _ ?_ (fun hHeld => ?_)
             ·first | exact ⟨n1, n2, n3⟩ | (simp (maxDischargeDepth := 6) [go_sem, *]; done)
             clear hK K
             (try simp only [Act.put, List.setIfInBounds_toArray, List.set_cons_zero, List.set_cons_succ])
             refine wpAnyH_ready (rs := [8]) (by kernel_rfl) (by simp) ?_
             refine (AllReadyH.cons (by rw [List.getElem?_toArray]; rfl) (fun K hK => ?_) AllReadyH.nil)
             go_simp
             refine (l7Put_opt ep us _ _ _ nn A n c M _ (by omega) (FromsO.own T.2.1) hep hus HNN.out).mono ?_; rintro e v6 ⟨a', c', rfl, O, bb⟩; clear n0 n1 n2 n3 n4 n5 n6 y0 y1 y2 y3 y4 y5 y6 z0 z1 z2 z3 z4 z5 z6 z7 z8; (have hsz : w.heap.size + 1 ≤ v5.heap.size := Nat.le_of_lt (Nat.lt_of_le_of_lt hbt T.1.1)); (replace T := T.below bb); (have G6 : ∀ g, (Value.slice a' (n + 1) c').ownBlock = some g → g ≠ j6 := fun g hg => by have := (World.ownsRow.lt O g hg).1; have := X.1; omega); (replace X := X.below bb); (have G7 : ∀ g, (Value.slice a' (n + 1) c').ownBlock = some g → g ≠ j7 := fun g hg => by have := (World.ownsRow.lt O g hg).1; have := Y.1.1; omega); (replace Y := Y.below bb); (replace O := ownK_le O hsz); clear bb hsz; (obtain ⟨n0, n1, n2, n3, n4, n5, n6⟩ := id T.1); (obtain ⟨y0, y1, y2, y3, y4, y5, y6⟩ := id X); (obtain ⟨⟨z0, z1, z2, z3, z4⟩, z5, z6, z7, z8⟩ := id Y)
             (try go_wp2_with fail)
             refine hK.out _ _ ?_ (fun hHeld => ?_)
             ·first | exact ⟨n1, n2, n3⟩ | (simp (maxDischargeDepth := 6) [go_sem, *]; done)
             clear hK K
             (try simp only [Act.put, List.setIfInBounds_toArray, List.set_cons_zero, List.set_cons_succ])
             refine wpAnyH_take (i := 9) (v := ?_) (by rw [List.getElem?_toArray]; rfl) (by kernel_rfl) (by kernel_rfl) (by kernel_rfl) (by intro _ _ _ h; exact h) (Or.inl ⟨by rfl, ?_⟩) (by assumption) ?_
             rotate_left
             ·(intro w hSw; (try dsimp only at hSw); go_simp; all_goals with_reducible rfl)
             (try simp only [Act.put, List.setIfInBounds_toArray, List.set_cons_zero, List.set_cons_succ])
             refine wpAnyH_take (i := 10) (v := ?_) (by rw [List.getElem?_toArray]; rfl) (by kernel_rfl) (by kernel_rfl) (by kernel_rfl) (by intro _ _ _ h; exact h) (Or.inl ⟨by rfl, ?_⟩) (by assumption) ?_
             rotate_left
             ·(intro w hSw; (try dsimp only at hSw); go_simp; all_goals with_reducible rfl)
             (try simp only [Act.put, List.setIfInBounds_toArray, List.set_cons_zero, List.set_cons_succ])
             refine wpAnyH_take (i := 11) (v := ?_) (by rw [List.getElem?_toArray]; rfl) (by kernel_rfl) (by kernel_rfl) (by kernel_rfl) (by intro _ _ _ h; exact h) (Or.inl ⟨by rfl, ?_⟩) (by assumption) ?_
             rotate_left
             ·(intro w hSw; (try dsimp only at hSw); go_simp; all_goals with_reducible rfl)
             (try simp only [Act.put, List.setIfInBounds_toArray, List.set_cons_zero, List.set_cons_succ])
             refine wpAnyH_ready (rs := [14]) (by kernel_rfl) (by simp) ?_
             refine (AllReadyH.cons (by rw [List.getElem?_toArray]; rfl) (fun K hK => ?_) AllReadyH.nil)
             go_simp
             clear n0 n1 n2 n3 n4 n5 n6 y0 y1 y2 y3 y4 y5 y6 z0 z1 z2 z3 z4 z5 z6 z7 z8; (have bb : But j6 v6 (((v6.setCell ⟨j6, 0, none⟩ (.int .i64 ep)).setCell ⟨j6, 1, none⟩ (.int .i64 (us + 1))).setCell ⟨j6, 2, none⟩ (.slice a' (n + 1) c')) := put3_but _ _ _ _ _); (have cc : CurOk (((v6.setCell ⟨j6, 0, none⟩ (.int .i64 ep)).setCell ⟨j6, 1, none⟩ (.int .i64 (us + 1))).setCell ⟨j6, 2, none⟩ (.slice a' (n + 1) c')) B p := CurOk.put3 T.2.2.1 h6p (by omega) _ _ _); (replace T := T.other bb cc h6t hbt H6); (replace X : Bx3 (((v6.setCell ⟨j6, 0, none⟩ (.int .i64 ep)).setCell ⟨j6, 1, none⟩ (.int .i64 (us + 1))).setCell ⟨j6, 2, none⟩ (.slice a' (n + 1) c')) j6 (.int .i64 ep) (.int .i64 (us + 1)) (.slice a' (n + 1) c') := X.set _ _ _); (replace Y := Y.but bb (by omega)); (replace O := own_neK O bb G6); clear bb cc; generalize (((v6.setCell ⟨j6, 0, none⟩ (.int .i64 ep)).setCell ⟨j6, 1, none⟩ (.int .i64 (us + 1))).setCell ⟨j6, 2, none⟩ (.slice a' (n + 1) c')) = v7 at *; (obtain ⟨n0, n1, n2, n3, n4, n5, n6⟩ := id T.1); (obtain ⟨y0, y1, y2, y3, y4, y5, y6⟩ := id X); (obtain ⟨⟨z0, z1, z2, z3, z4⟩, z5, z6, z7, z8⟩ := id Y)
             refine hK.out _ _ ?_ (fun hHeld => ?_)
             ·first | exact ⟨n1, n2, n3⟩ | (simp (maxDischargeDepth := 6) [go_sem, *]; done)
             clear hK K
             (try simp only [Act.put, List.setIfInBounds_toArray, List.set_cons_zero, List.set_cons_succ])
             refine wpAnyH_ready (rs := [15]) (by kernel_rfl) (by simp) ?_
             refine (AllReadyH.cons (by rw [List.getElem?_toArray]; rfl) (fun K hK => ?_) AllReadyH.nil)
             go_simp
             clear n0 n1 n2 n3 n4 n5 n6 y0 y1 y2 y3 y4 y5 y6 z0 z1 z2 z3 z4 z5 z6 z7 z8; (have bb : But j7 v7 ((((v7.setCell ⟨j7, 0, none⟩ (.int .i64 nn)).setCell ⟨j7, 1, none⟩ (.int .i64 x1)).setCell ⟨j7, 2, none⟩ (.int .i64 x2)).setCell ⟨j7, 3, none⟩ (.int .i64 (IntKind.i64.wrap (1 + x3)))) := put4_but _ _ _ _ _ _); (have cc : CurOk ((((v7.setCell ⟨j7, 0, none⟩ (.int .i64 nn)).setCell ⟨j7, 1, none⟩ (.int .i64 x1)).setCell ⟨j7, 2, none⟩ (.int .i64 x2)).setCell ⟨j7, 3, none⟩ (.int .i64 (IntKind.i64.wrap (1 + x3)))) B p := CurOk.put4 T.2.2.1 h7p (by omega) _ _ _ _); (replace T := T.other bb cc h7t hbt H7); (replace X := X.but bb (by omega)); (replace O := own_neK O bb G7); clear bb cc Y; generalize ((((v7.setCell ⟨j7, 0, none⟩ (.int .i64 nn)).setCell ⟨j7, 1, none⟩ (.int .i64 x1)).setCell ⟨j7, 2, none⟩ (.int .i64 x2)).setCell ⟨j7, 3, none⟩ (.int .i64 (IntKind.i64.wrap (1 + x3)))) = v8 at *; (obtain ⟨n0, n1, n2, n3, n4, n5, n6⟩ := id T.1); (obtain ⟨y0, y1, y2, y3, y4, y5, y6⟩ := id X)
             refine hK.out _ _ ?_ (fun hHeld => ?_)
             ·first | exact ⟨n1, n2, n3⟩ | (simp (maxDischargeDepth := 6) [go_sem, *]; done)
             clear hK K
             (try simp only [Act.put, List.setIfInBounds_toArray, List.set_cons_zero, List.set_cons_succ])
             refine wpAnyH_done (by kernel_rfl) ?_ _
             (try go_wp2_with fail)
             go_meet
             case rel => exact ⟨j6, a', c', x1, x2, _, rfl, by omega, ⟨x1l, x1h⟩, X, O, T⟩
           ·go_simp
            clear n0 n1 n2 n3 n4 n5 n6 z0 z1 z2 z3 z4 z5 z6 z7 z8; (have bb := Below.nw v3 (.cells #[.int .i64 0, .int .i64 0, .slice none 0 0] 39)); (have X := Bx3.new v3 (.int .i64 0) (.int .i64 0) (.slice none 0 0) 39); (have h6t : bt < v3.heap.size := T.1.1); (have h6p : v3.heap.size ≠ p := by omega); (have H6 : ∀ g, (Value.slice A n c).ownBlock = some g → g ≠ v3.heap.size := fun g hg => by have := (World.ownsRow.lt T.2.1 g hg).2; omega); (have h67 : j7 < v3.heap.size := Y.1.1); (replace Y := Y.below bb); (replace T := T.below bb); clear bb; generalize v3.heap.size = j6 at *; generalize v3.alloc (.cells #[.int .i64 0, .int .i64 0, .slice none 0 0] 39) = v4 at *; (obtain ⟨n0, n1, n2, n3, n4, n5, n6⟩ := id T.1); (obtain ⟨y0, y1, y2, y3, y4, y5, y6⟩ := id X); (obtain ⟨⟨z0, z1, z2, z3, z4⟩, z5, z6, z7, z8⟩ := id Y)
            refine hK.out _ _ ?_ (fun hHeld => ?_)
            ·first | exact ⟨n1, n2, n3⟩ | (simp (maxDischargeDepth := 6) [go_sem, *]; done)
            clear hK K
            (try simp only [Act.put, List.setIfInBounds_toArray, List.set_cons_zero, List.set_cons_succ])
            refine wpAnyH_ready (rs := [6]) (by kernel_rfl) (by simp) ?_
            refine (AllReadyH.cons (by rw [List.getElem?_toArray]; rfl) (fun K hK => ?_) AllReadyH.nil)
            go_simp
            refine (l1Below_any B p 4 _ T.2.2.1).mono ?_; rintro e v5 ⟨x3, rfl, x3l, x3h, _, _, cc, bb⟩; clear n0 n1 n2 n3 n4 n5 n6 y0 y1 y2 y3 y4 y5 y6 z0 z1 z2 z3 z4 z5 z6 z7 z8; (replace T := T.but cc bb hp hbt); (replace X := X.but bb h6p); (replace Y := Y.but bb h7p); clear cc bb; (obtain ⟨n0, n1, n2, n3, n4, n5, n6⟩ := id T.1); (obtain ⟨y0, y1, y2, y3, y4, y5, y6⟩ := id X); (obtain ⟨⟨z0, z1, z2, z3, z4⟩, z5, z6, z7, z8⟩ := id Y)
            (try go_wp2_with fail)
            refine hK.out _ _ ?_ (fun hHeld => ?_)
            ·first | exact ⟨n1, n2, n3⟩ | (simp (maxDischargeDepth := 6) [go_sem, *]; done)
            clear hK K
            (try simp only [Act.put, List.setIfInBounds_toArray, List.set_cons_zero, List.set_cons_succ])
            refine wpAnyH_take (i := 7) (v := ?_) (by rw [List.getElem?_toArray]; rfl) (by kernel_rfl) (by kernel_rfl) (by kernel_rfl) (by intro _ _ _ h; exact h) (Or.inl ⟨by rfl, ?_⟩) (by assumption) ?_
            rotate_left
            ·(intro w hSw; (try dsimp only at hSw); go_simp; all_goals with_reducible rfl)
            (try simp only [Act.put, List.setIfInBounds_toArray, List.set_cons_zero, List.set_cons_succ])
            refine wpAnyH_ready (rs := [8]) (by kernel_rfl) (by simp) ?_
            refine (AllReadyH.cons (by rw [List.getElem?_toArray]; rfl) (fun K hK => ?_) AllReadyH.nil)
            go_simp
            refine (l7Put_opt ep us _ _ _ nn A n c M _ (by omega) (FromsO.own T.2.1) hep hus HNN.out).mono ?_; rintro e v6 ⟨a', c', rfl, O, bb⟩; clear n0 n1 n2 n3 n4 n5 n6 y0 y1 y2 y3 y4 y5 y6 z0 z1 z2 z3 z4 z5 z6 z7 z8; (have hsz : w.heap.size + 1 ≤ v5.heap.size := Nat.le_of_lt (Nat.lt_of_le_of_lt hbt T.1.1)); (replace T := T.below bb); (have G6 : ∀ g, (Value.slice a' (n + 1) c').ownBlock = some g → g ≠ j6 := fun g hg => by have := (World.ownsRow.lt O g hg).1; have := X.1; omega); (replace X := X.below bb); (have G7 : ∀ g, (Value.slice a' (n + 1) c').ownBlock = some g → g ≠ j7 := fun g hg => by have := (World.ownsRow.lt O g hg).1; have := Y.1.1; omega); (replace Y := Y.below bb); (replace O := ownK_le O hsz); clear bb hsz; (obtain ⟨n0, n1, n2, n3, n4, n5, n6⟩ := id T.1); (obtain ⟨y0, y1, y2, y3, y4, y5, y6⟩ := id X); (obtain ⟨⟨z0, z1, z2, z3, z4⟩, z5, z6, z7, z8⟩ := id Y)
            (try go_wp2_with fail)
            refine hK.out _ _ ?_ (fun hHeld => ?_)
            ·first | exact ⟨n1, n2, n3⟩ | (simp (maxDischargeDepth := 6) [go_sem, *]; done)
            clear hK K
            (try simp only [Act.put, List.setIfInBounds_toArray, List.set_cons_zero, List.set_cons_succ])
            refine wpAnyH_take (i := 9) (v := ?_) (by rw [List.getElem?_toArray]; rfl) (by kernel_rfl) (by kernel_rfl) (by kernel_rfl) (by intro _ _ _ h; exact h) (Or.inl ⟨by rfl, ?_⟩) (by assumption) ?_
            rotate_left
            ·(intro w hSw; (try dsimp only at hSw); go_simp; all_goals with_reducible rfl)
            (try simp only [Act.put, List.setIfInBounds_toArray, List.set_cons_zero, List.set_cons_succ])
            refine wpAnyH_take (i := 10) (v := ?_) (by rw [List.getElem?_toArray]; rfl) (by kernel_rfl) (by kernel_rfl) (by kernel_rfl) (by intro _ _ _ h; exact h) (Or.inl ⟨by rfl, ?_⟩) (by assumption) ?_
            rotate_left
            ·(intro w hSw; (try dsimp only at hSw); go_simp; all_goals with_reducible rfl)
            (try simp only [Act.put, List.setIfInBounds_toArray, List.set_cons_zero, List.set_cons_succ])
            refine wpAnyH_take (i := 11) (v := ?_) (by rw [List.getElem?_toArray]; rfl) (by kernel_rfl) (by kernel_rfl) (by kernel_rfl) (by intro _ _ _ h; exact h) (Or.inl ⟨by rfl, ?_⟩) (by assumption) ?_
            rotate_left
            ·(intro w hSw; (try dsimp only at hSw); go_simp; all_goals with_reducible rfl)
            (try simp only [Act.put, List.setIfInBounds_toArray, List.set_cons_zero, List.set_cons_succ])
            refine wpAnyH_ready (rs := [14]) (by kernel_rfl) (by simp) ?_
            refine (AllReadyH.cons (by rw [List.getElem?_toArray]; rfl) (fun K hK => ?_) AllReadyH.nil)
            go_simp
            clear n0 n1 n2 n3 n4 n5 n6 y0 y1 y2 y3 y4 y5 y6 z0 z1 z2 z3 z4 z5 z6 z7 z8; (have bb : But j6 v6 (((v6.setCell ⟨j6, 0, none⟩ (.int .i64 ep)).setCell ⟨j6, 1, none⟩ (.int .i64 (us + 1))).setCell ⟨j6, 2, none⟩ (.slice a' (n + 1) c')) := put3_but _ _ _ _ _); (have cc : CurOk (((v6.setCell ⟨j6, 0, none⟩ (.int .i64 ep)).setCell ⟨j6, 1, none⟩ (.int .i64 (us + 1))).setCell ⟨j6, 2, none⟩ (.slice a' (n + 1) c')) B p := CurOk.put3 T.2.2.1 h6p (by omega) _ _ _); (replace T := T.other bb cc h6t hbt H6); (replace X : Bx3 (((v6.setCell ⟨j6, 0, none⟩ (.int .i64 ep)).setCell ⟨j6, 1, none⟩ (.int .i64 (us + 1))).setCell ⟨j6, 2, none⟩ (.slice a' (n + 1) c')) j6 (.int .i64 ep) (.int .i64 (us + 1)) (.slice a' (n + 1) c') := X.set _ _ _); (replace Y := Y.but bb (by omega)); (replace O := own_neK O bb G6); clear bb cc; generalize (((v6.setCell ⟨j6, 0, none⟩ (.int .i64 ep)).setCell ⟨j6, 1, none⟩ (.int .i64 (us + 1))).setCell ⟨j6, 2, none⟩ (.slice a' (n + 1) c')) = v7 at *; (obtain ⟨n0, n1, n2, n3, n4, n5, n6⟩ := id T.1); (obtain ⟨y0, y1, y2, y3, y4, y5, y6⟩ := id X); (obtain ⟨⟨z0, z1, z2, z3, z4⟩, z5, z6, z7, z8⟩ := id Y)
            refine hK.out _ _ ?_ (fun hHeld => ?_)
            ·first | exact ⟨n1, n2, n3⟩ | (simp (maxDischargeDepth := 6) [go_sem, *]; done)
            clear hK K
            (try simp only [Act.put, List.setIfInBounds_toArray, List.set_cons_zero, List.set_cons_succ])
            refine wpAnyH_ready (rs := [15]) (by kernel_rfl) (by simp) ?_
            refine (AllReadyH.cons (by rw [List.getElem?_toArray]; rfl) (fun K hK => ?_) AllReadyH.nil)
            go_simp
            clear n0 n1 n2 n3 n4 n5 n6 y0 y1 y2 y3 y4 y5 y6 z0 z1 z2 z3 z4 z5 z6 z7 z8; (have bb : But j7 v7 ((((v7.setCell ⟨j7, 0, none⟩ (.int .i64 nn)).setCell ⟨j7, 1, none⟩ (.int .i64 x1)).setCell ⟨j7, 2, none⟩ (.int .i64 x2)).setCell ⟨j7, 3, none⟩ (.int .i64 (IntKind.i64.wrap (1 + x3)))) := put4_but _ _ _ _ _ _); (have cc : CurOk ((((v7.setCell ⟨j7, 0, none⟩ (.int .i64 nn)).setCell ⟨j7, 1, none⟩ (.int .i64 x1)).setCell ⟨j7, 2, none⟩ (.int .i64 x2)).setCell ⟨j7, 3, none⟩ (.int .i64 (IntKind.i64.wrap (1 + x3)))) B p := CurOk.put4 T.2.2.1 h7p (by omega) _ _ _ _); (replace T := T.other bb cc h7t hbt H7); (replace X := X.but bb (by omega)); (replace O := own_neK O bb G7); clear bb cc Y; generalize ((((v7.setCell ⟨j7, 0, none⟩ (.int .i64 nn)).setCell ⟨j7, 1, none⟩ (.int .i64 x1)).setCell ⟨j7, 2, none⟩ (.int .i64 x2)).setCell ⟨j7, 3, none⟩ (.int .i64 (IntKind.i64.wrap (1 + x3)))) = v8 at *; (obtain ⟨n0, n1, n2, n3, n4, n5, n6⟩ := id T.1); (obtain ⟨y0, y1, y2, y3, y4, y5, y6⟩ := id X)
            refine hK.out _ _ ?_ (fun hHeld => ?_)
            ·first | exact ⟨n1, n2, n3⟩ | (simp (maxDischargeDepth := 6) [go_sem, *]; done)
            clear hK K
            (try simp only [Act.put, List.setIfInBounds_toArray, List.set_cons_zero, List.set_cons_succ])
            refine wpAnyH_done (by kernel_rfl) ?_ _
            (try go_wp2_with fail)
            go_meet
            case rel => exact ⟨j6, a', c', x1, x2, _, rfl, by omega, ⟨x1l, x1h⟩, X, O, T⟩
          ·go_simp
           clear n0 n1 n2 n3 n4 n5 n6 z0 z1 z2 z3 z4 z5 z6 z7 z8; (have bb := Below.nw v2 (.cells #[.int .i64 0, .int .i64 0, .slice none 0 0] 39)); (have X := Bx3.new v2 (.int .i64 0) (.int .i64 0) (.slice none 0 0) 39); (have h6t : bt < v2.heap.size := T.1.1); (have h6p : v2.heap.size ≠ p := by omega); (have H6 : ∀ g, (Value.slice A n c).ownBlock = some g → g ≠ v2.heap.size := fun g hg => by have := (World.ownsRow.lt T.2.1 g hg).2; omega); (have h67 : j7 < v2.heap.size := Y.1.1); (replace Y := Y.below bb); (replace T := T.below bb); clear bb; generalize v2.heap.size = j6 at *; generalize v2.alloc (.cells #[.int .i64 0, .int .i64 0, .slice none 0 0] 39) = v3 at *; (obtain ⟨n0, n1, n2, n3, n4, n5, n6⟩ := id T.1); (obtain ⟨y0, y1, y2, y3, y4, y5, y6⟩ := id X); (obtain ⟨⟨z0, z1, z2, z3, z4⟩, z5, z6, z7, z8⟩ := id Y)
           refine hK.out _ _ ?_ (fun hHeld => ?_)
           ·first | exact ⟨n1, n2, n3⟩ | (simp (maxDischargeDepth := 6) [go_sem, *]; done)
           clear hK K
           (try simp only [Act.put, List.setIfInBounds_toArray, List.set_cons_zero, List.set_cons_succ])
           refine wpAnyH_ready (rs := [4]) (by kernel_rfl) (by simp) ?_
           refine (AllReadyH.cons (by rw [List.getElem?_toArray]; rfl) (fun K hK => ?_) AllReadyH.nil)
           go_simp
           refine (l1Below_any B p 60 _ T.2.2.1).mono ?_; rintro e v4 ⟨x2, rfl, x2l, x2h, _, _, cc, bb⟩; clear n0 n1 n2 n3 n4 n5 n6 y0 y1 y2 y3 y4 y5 y6 z0 z1 z2 z3 z4 z5 z6 z7 z8; (replace T := T.but cc bb hp hbt); (replace X := X.but bb h6p); (replace Y := Y.but bb h7p); clear cc bb; (obtain ⟨n0, n1, n2, n3, n4, n5, n6⟩ := id T.1); (obtain ⟨y0, y1, y2, y3, y4, y5, y6⟩ := id X); (obtain ⟨⟨z0, z1, z2, z3, z4⟩, z5, z6, z7, z8⟩ := id Y)
           (try go_wp2_with fail)
           refine hK.out _ _ ?_ (fun hHeld => ?_)
           ·first | exact ⟨n1, n2, n3⟩ | (simp (maxDischargeDepth := 6) [go_sem, *]; done)
           clear hK K
           (try simp only [Act.put, List.setIfInBounds_toArray, List.set_cons_zero, List.set_cons_succ])
           refine wpAnyH_ready (rs := [6]) (by kernel_rfl) (by simp) ?_
           refine (AllReadyH.cons (by rw [List.getElem?_toArray]; rfl) (fun K hK => ?_) AllReadyH.nil)
           go_simp
           refine (l1Below_any B p 4 _ T.2.2.1).mono ?_; rintro e v5 ⟨x3, rfl, x3l, x3h, _, _, cc, bb⟩; clear n0 n1 n2 n3 n4 n5 n6 y0 y1 y2 y3 y4 y5 y6 z0 z1 z2 z3 z4 z5 z6 z7 z8; (replace T := T.but cc bb hp hbt); (replace X := X.but bb h6p); (replace Y := Y.but bb h7p); clear cc bb; (obtain ⟨n0, n1, n2, n3, n4, n5, n6⟩ := id T.1); (obtain ⟨y0, y1, y2, y3, y4, y5, y6⟩ := id X); (obtain ⟨⟨z0, z1, z2, z3, z4⟩, z5, z6, z7, z8⟩ := id Y)
           (try go_wp2_with fail)
           refine hK.out _ _ ?_ (fun hHeld => ?_)
           ·first | exact ⟨n1, n2, n3⟩ | (simp (maxDischargeDepth := 6) [go_sem, *]; done)
           clear hK K
           (try simp only [Act.put, List.setIfInBounds_toArray, List.set_cons_zero, List.set_cons_succ])
           refine wpAnyH_take (i := 7) (v := ?_) (by rw [List.getElem?_toArray]; rfl) (by kernel_rfl) (by kernel_rfl) (by kernel_rfl) (by intro _ _ _ h; exact h) (Or.inl ⟨by rfl, ?_⟩) (by assumption) ?_
           rotate_left
           ·(intro w hSw; (try dsimp only at hSw); go_simp; all_goals with_reducible rfl)
           (try simp only [Act.put, List.setIfInBounds_toArray, List.set_cons_zero, List.set_cons_succ])
           refine wpAnyH_ready (rs := [8]) (by kernel_rfl) (by simp) ?_
           refine (AllReadyH.cons (by rw [List.getElem?_toArray]; rfl) (fun K hK => ?_) AllReadyH.nil)
           go_simp
           refine (l7Put_opt ep us _ _ _ nn A n c M _ (by omega) (FromsO.own T.2.1) hep hus HNN.out).mono ?_; rintro e v6 ⟨a', c', rfl, O, bb⟩; clear n0 n1 n2 n3 n4 n5 n6 y0 y1 y2 y3 y4 y5 y6 z0 z1 z2 z3 z4 z5 z6 z7 z8; (have hsz : w.heap.size + 1 ≤ v5.heap.size := Nat.le_of_lt (Nat.lt_of_le_of_lt hbt T.1.1)); (replace T := T.below bb); (have G6 : ∀ g, (Value.slice a' (n + 1) c').ownBlock = some g → g ≠ j6 := fun g hg => by have := (World.ownsRow.lt O g hg).1; have := X.1; omega); (replace X := X.below bb); (have G7 : ∀ g, (Value.slice a' (n + 1) c').ownBlock = some g → g ≠ j7 := fun g hg => by have := (World.ownsRow.lt O g hg).1; have := Y.1.1; omega); (replace Y := Y.below bb); (replace O := ownK_le O hsz); clear bb hsz; (obtain ⟨n0, n1, n2, n3, n4, n5, n6⟩ := id T.1); (obtain ⟨y0, y1, y2, y3, y4, y5, y6⟩ := id X); (obtain ⟨⟨z0, z1, z2, z3, z4⟩, z5, z6, z7, z8⟩ := id Y)
           (try go_wp2_with fail)
           refine hK.out _ _ ?_ (fun hHeld => ?_)
           ·first | exact ⟨n1, n2, n3⟩ | (simp (maxDischargeDepth := 6) [go_sem, *]; done)
           clear hK K
           (try simp only [Act.put, List.setIfInBounds_toArray, List.set_cons_zero, List.set_cons_succ])
           refine wpAnyH_take (i := 9) (v := ?_) (by rw [List.getElem?_toArray]; rfl) (by kernel_rfl) (by kernel_rfl) (by kernel_rfl) (by intro _ _ _ h; exact h) (Or.inl ⟨by rfl, ?_⟩) (by assumption) ?_
           rotate_left
           ·(intro w hSw; (try dsimp only at hSw); go_simp; all_goals with_reducible rfl)
           (try simp only [Act.put, List.setIfInBounds_toArray, List.set_cons_zero, List.set_cons_succ])
           refine wpAnyH_take (i := 10) (v := ?_) (by rw [List.getElem?_toArray]; rfl) (by kernel_rfl) (by kernel_rfl) (by kernel_rfl) (by intro _ _ _ h; exact h) (Or.inl ⟨by rfl, ?_⟩) (by assumption) ?_
           rotate_left
           ·(intro w hSw; (try dsimp only at hSw); go_simp; all_goals with_reducible rfl)
           (try simp only [Act.put, List.setIfInBounds_toArray, List.set_cons_zero, List.set_cons_succ])
           refine wpAnyH_take (i := 11) (v := ?_) (by rw [List.getElem?_toArray]; rfl) (by kernel_rfl) (by kernel_rfl) (by kernel_rfl) (by intro _ _ _ h; exact h) (Or.inl ⟨by rfl, ?_⟩) (by assumption) ?_
           rotate_left
           ·(intro w hSw; (try dsimp only at hSw); go_simp; all_goals with_reducible rfl)
           (try simp only [Act.put, List.setIfInBounds_toArray, List.set_cons_zero, List.set_cons_succ])
           refine wpAnyH_ready (rs := [14]) (by kernel_rfl) (by simp) ?_
           refine (AllReadyH.cons (by rw [List.getElem?_toArray]; rfl) (fun K hK => ?_) AllReadyH.nil)
           go_simp
           clear n0 n1 n2 n3 n4 n5 n6 y0 y1 y2 y3 y4 y5 y6 z0 z1 z2 z3 z4 z5 z6 z7 z8; (have bb : But j6 v6 (((v6.setCell ⟨j6, 0, none⟩ (.int .i64 ep)).setCell ⟨j6, 1, none⟩ (.int .i64 (us + 1))).setCell ⟨j6, 2, none⟩ (.slice a' (n + 1) c')) := put3_but _ _ _ _ _); (have cc : CurOk (((v6.setCell ⟨j6, 0, none⟩ (.int .i64 ep)).setCell ⟨j6, 1, none⟩ (.int .i64 (us + 1))).setCell ⟨j6, 2, none⟩ (.slice a' (n + 1) c')) B p := CurOk.put3 T.2.2.1 h6p (by omega) _ _ _); (replace T := T.other bb cc h6t hbt H6); (replace X : Bx3 (((v6.setCell ⟨j6, 0, none⟩ (.int .i64 ep)).setCell ⟨j6, 1, none⟩ (.int .i64 (us + 1))).setCell ⟨j6, 2, none⟩ (.slice a' (n + 1) c')) j6 (.int .i64 ep) (.int .i64 (us + 1)) (.slice a' (n + 1) c') := X.set _ _ _); (replace Y := Y.but bb (by omega)); (replace O := own_neK O bb G6); clear bb cc; generalize (((v6.setCell ⟨j6, 0, none⟩ (.int .i64 ep)).setCell ⟨j6, 1, none⟩ (.int .i64 (us + 1))).setCell ⟨j6, 2, none⟩ (.slice a' (n + 1) c')) = v7 at *; (obtain ⟨n0, n1, n2, n3, n4, n5, n6⟩ := id T.1); (obtain ⟨y0, y1, y2, y3, y4, y5, y6⟩ := id X); (obtain ⟨⟨z0, z1, z2, z3, z4⟩, z5, z6, z7, z8⟩ := id Y)
           refine hK.out _ _ ?_ (fun hHeld => ?_)
           ·first | exact ⟨n1, n2, n3⟩ | (simp (maxDischargeDepth := 6) [go_sem, *]; done)
           clear hK K
           (try simp only [Act.put, List.setIfInBounds_toArray, List.set_cons_zero, List.set_cons_succ])
           refine wpAnyH_ready (rs := [15]) (by kernel_rfl) (by simp) ?_
           refine (AllReadyH.cons (by rw [List.getElem?_toArray]; rfl) (fun K hK => ?_) AllReadyH.nil)
           go_simp
           clear n0 n1 n2 n3 n4 n5 n6 y0 y1 y2 y3 y4 y5 y6 z0 z1 z2 z3 z4 z5 z6 z7 z8; (have bb : But j7 v7 ((((v7.setCell ⟨j7, 0, none⟩ (.int .i64 nn)).setCell ⟨j7, 1, none⟩ (.int .i64 x1)).setCell ⟨j7, 2, none⟩ (.int .i64 x2)).setCell ⟨j7, 3, none⟩ (.int .i64 (IntKind.i64.wrap (1 + x3)))) := put4_but _ _ _ _ _ _); (have cc : CurOk ((((v7.setCell ⟨j7, 0, none⟩ (.int .i64 nn)).setCell ⟨j7, 1, none⟩ (.int .i64 x1)).setCell ⟨j7, 2, none⟩ (.int .i64 x2)).setCell ⟨j7, 3, none⟩ (.int .i64 (IntKind.i64.wrap (1 + x3)))) B p := CurOk.put4 T.2.2.1 h7p (by omega) _ _ _ _); (replace T := T.other bb cc h7t hbt H7); (replace X := X.but bb (by omega)); (replace O := own_neK O bb G7); clear bb cc Y; generalize ((((v7.setCell ⟨j7, 0, none⟩ (.int .i64 nn)).setCell ⟨j7, 1, none⟩ (.int .i64 x1)).setCell ⟨j7, 2, none⟩ (.int .i64 x2)).setCell ⟨j7, 3, none⟩ (.int .i64 (IntKind.i64.wrap (1 + x3)))) = v8 at *; (obtain ⟨n0, n1, n2, n3, n4, n5, n6⟩ := id T.1); (obtain ⟨y0, y1, y2, y3, y4, y5, y6⟩ := id X)
           refine hK.out _ _ ?_ (fun hHeld => ?_)
           ·first | exact ⟨n1, n2, n3⟩ | (simp (maxDischargeDepth := 6) [go_sem, *]; done)
           clear hK K
           (try simp only [Act.put, List.setIfInBounds_toArray, List.set_cons_zero, List.set_cons_succ])
           refine wpAnyH_done (by kernel_rfl) ?_ _
           (try go_wp2_with fail)
           go_meet
           case rel => exact ⟨j6, a', c', x1, x2, _, rfl, by omega, ⟨x1l, x1h⟩, X, O, T⟩
        ·go_simp
         clear n0 n1 n2 n3 n4 n5 n6; (have bb := Below.nw v (.cells #[.int .i64 0, .int .i64 0, .slice none 0 0] 39)); (have X := Bx3.new v (.int .i64 0) (.int .i64 0) (.slice none 0 0) 39); (have h6t : bt < v.heap.size := T.1.1); (have h6p : v.heap.size ≠ p := by omega); (have H6 : ∀ g, (Value.slice A n c).ownBlock = some g → g ≠ v.heap.size := fun g hg => by have := (World.ownsRow.lt T.2.1 g hg).2; omega); (replace T := T.below bb); clear bb; generalize v.heap.size = j6 at *; generalize v.alloc (.cells #[.int .i64 0, .int .i64 0, .slice none 0 0] 39) = v1 at *; (obtain ⟨n0, n1, n2, n3, n4, n5, n6⟩ := id T.1); (obtain ⟨y0, y1, y2, y3, y4, y5, y6⟩ := id X)
         refine hK.out _ _ ?_ (fun hHeld => ?_)
         ·first | exact ⟨n1, n2, n3⟩ | (simp (maxDischargeDepth := 6) [go_sem, *]; done)
         clear hK K
         (try simp only [Act.put, List.setIfInBounds_toArray, List.set_cons_zero, List.set_cons_succ])
         refine wpAnyH_ready (rs := [2, 13]) (by kernel_rfl) (by simp) ?_
         refine (AllReadyH.cons (by rw [List.getElem?_toArray]; rfl) (fun K hK => ?_) (AllReadyH.cons (by rw [List.getElem?_toArray]; rfl) (fun K hK => ?_) AllReadyH.nil))
         ·go_simp
          refine (l1Below_any B p 4 _ T.2.2.1).mono ?_; rintro e v2 ⟨x1, rfl, x1l, x1h, _, _, cc, bb⟩; clear n0 n1 n2 n3 n4 n5 n6 y0 y1 y2 y3 y4 y5 y6; (replace T := T.but cc bb hp hbt); (replace X := X.but bb h6p); clear cc bb; (obtain ⟨n0, n1, n2, n3, n4, n5, n6⟩ := id T.1); (obtain ⟨y0, y1, y2, y3, y4, y5, y6⟩ := id X)
          (try go_wp2_with fail)
          refine hK.out _ _ ?_ (fun hHeld => ?_)
          ·first | exact ⟨n1, n2, n3⟩ | (simp (maxDischargeDepth := 6) [go_sem, *]; done)
          clear hK K
          (try simp only [Act.put, List.setIfInBounds_toArray, List.set_cons_zero, List.set_cons_succ])
          refine wpAnyH_ready (rs := [4, 13]) (by kernel_rfl) (by simp) ?_
          refine (AllReadyH.cons (by rw [List.getElem?_toArray]; rfl) (fun K hK => ?_) (AllReadyH.cons (by rw [List.getElem?_toArray]; rfl) (fun K hK => ?_) AllReadyH.nil))
          ·go_simp
           refine (l1Below_any B p 60 _ T.2.2.1).mono ?_; rintro e v3 ⟨x2, rfl, x2l, x2h, _, _, cc, bb⟩; clear n0 n1 n2 n3 n4 n5 n6 y0 y1 y2 y3 y4 y5 y6; (replace T := T.but cc bb hp hbt); (replace X := X.but bb h6p); clear cc bb; (obtain ⟨n0, n1, n2, n3, n4, n5, n6⟩ := id T.1); (obtain ⟨y0, y1, y2, y3, y4, y5, y6⟩ := id X)
           (try go_wp2_with fail)
           refine hK.out _ _ ?_ (fun hHeld => ?_)
           ·first | exact ⟨n1, n2, n3⟩ | (simp (maxDischargeDepth := 6) [go_sem, *]; done)
           clear hK K
           (try simp only [Act.put, List.setIfInBounds_toArray, List.set_cons_zero, List.set_cons_succ])
           refine wpAnyH_ready (rs := [6, 13]) (by kernel_rfl) (by simp) ?_
           refine (AllReadyH.cons (by rw [List.getElem?_toArray]; rfl) (fun K hK => ?_) (AllReadyH.cons (by rw [List.getElem?_toArray]; rfl) (fun K hK => ?_) AllReadyH.nil))
           ·go_simp
            refine (l1Below_any B p 4 _ T.2.2.1).mono ?_; rintro e v4 ⟨x3, rfl, x3l, x3h, _, _, cc, bb⟩; clear n0 n1 n2 n3 n4 n5 n6 y0 y1 y2 y3 y4 y5 y6; (replace T := T.but cc bb hp hbt); (replace X := X.but bb h6p); clear cc bb; (obtain ⟨n0, n1, n2, n3, n4, n5, n6⟩ := id T.1); (obtain ⟨y0, y1, y2, y3, y4, y5, y6⟩ := id X)
            (try go_wp2_with fail)
            refine hK.out _ _ ?_ (fun hHeld => ?_)
            ·first | exact ⟨n1, n2, n3⟩ | (simp (maxDischargeDepth := 6) [go_sem, *]; done)
            clear hK K
            (try simp only [Act.put, List.setIfInBounds_toArray, List.set_cons_zero, List.set_cons_succ])
            refine wpAnyH_take (i := 7) (v := ?_) (by rw [List.getElem?_toArray]; rfl) (by kernel_rfl) (by kernel_rfl) (by kernel_rfl) (by intro _ _ _ h; exact h) (Or.inl ⟨by rfl, ?_⟩) (by assumption) ?_
            rotate_left
            ·(intro w hSw; (try dsimp only at hSw); go_simp; all_goals with_reducible rfl)
            (try simp only [Act.put, List.setIfInBounds_toArray, List.set_cons_zero, List.set_cons_succ])
            refine wpAnyH_ready (rs := [8, 13]) (by kernel_rfl) (by simp) ?_
            refine (AllReadyH.cons (by rw [List.getElem?_toArray]; rfl) (fun K hK => ?_) (AllReadyH.cons (by rw [List.getElem?_toArray]; rfl) (fun K hK => ?_) AllReadyH.nil))
            ·go_simp
             refine (l7Put_opt ep us _ _ _ nn A n c M _ (by omega) (FromsO.own T.2.1) hep hus HNN.out).mono ?_; rintro e v5 ⟨a', c', rfl, O, bb⟩; clear n0 n1 n2 n3 n4 n5 n6 y0 y1 y2 y3 y4 y5 y6; (have hsz : w.heap.size + 1 ≤ v4.heap.size := Nat.le_of_lt (Nat.lt_of_le_of_lt hbt T.1.1)); (replace T := T.below bb); (have G6 : ∀ g, (Value.slice a' (n + 1) c').ownBlock = some g → g ≠ j6 := fun g hg => by have := (World.ownsRow.lt O g hg).1; have := X.1; omega); (replace X := X.below bb); (replace O := ownK_le O hsz); clear bb hsz; (obtain ⟨n0, n1, n2, n3, n4, n5, n6⟩ := id T.1); (obtain ⟨y0, y1, y2, y3, y4, y5, y6⟩ := id X)
             (try go_wp2_with fail)
             refine hK.out _ _ ?_ (fun hHeld => ?_)
             ·first | exact ⟨n1, n2, n3⟩ | (simp (maxDischargeDepth := 6) [go_sem, *]; done)
             clear hK K
             (try simp only [Act.put, List.setIfInBounds_toArray, List.set_cons_zero, List.set_cons_succ])
             refine wpAnyH_take (i := 9) (v := ?_) (by rw [List.getElem?_toArray]; rfl) (by kernel_rfl) (by kernel_rfl) (by kernel_rfl) (by intro _ _ _ h; exact h) (Or.inl ⟨by rfl, ?_⟩) (by assumption) ?_
             rotate_left
             ·(intro w hSw; (try dsimp only at hSw); go_simp; all_goals with_reducible rfl)
             (try simp only [Act.put, List.setIfInBounds_toArray, List.set_cons_zero, List.set_cons_succ])
             refine wpAnyH_take (i := 10) (v := ?_) (by rw [List.getElem?_toArray]; rfl) (by kernel_rfl) (by kernel_rfl) (by kernel_rfl) (by intro _ _ _ h; exact h) (Or.inl ⟨by rfl, ?_⟩) (by assumption) ?_
             rotate_left
             ·(intro w hSw; (try dsimp only at hSw); go_simp; all_goals with_reducible rfl)
             (try simp only [Act.put, List.setIfInBounds_toArray, List.set_cons_zero, List.set_cons_succ])
             refine wpAnyH_take (i := 11) (v := ?_) (by rw [List.getElem?_toArray]; rfl) (by kernel_rfl) (by kernel_rfl) (by kernel_rfl) (by intro _ _ _ h; exact h) (Or.inl ⟨by rfl, ?_⟩) (by assumption) ?_
             rotate_left
             ·(intro w hSw; (try dsimp only at hSw); go_simp; all_goals with_reducible rfl)
             (try simp only [Act.put, List.setIfInBounds_toArray, List.set_cons_zero, List.set_cons_succ])
             refine wpAnyH_ready (rs := [13]) (by kernel_rfl) (by simp) ?_
             refine (AllReadyH.cons (by rw [List.getElem?_toArray]; rfl) (fun K hK => ?_) AllReadyH.nil)
             go_simp
             clear n0 n1 n2 n3 n4 n5 n6 y0 y1 y2 y3 y4 y5 y6; (have bb := Below.nw v5 (.cells #[.int .i64 0, .int .i64 0, .int .i64 0, .int .i64 0] 43)); (have Y := Bf4.new v5 0 0 0 0 43); (have h7t : bt < v5.heap.size := T.1.1); (have h7p : v5.heap.size ≠ p := by omega); (have H7 : ∀ g, (Value.slice A n c).ownBlock = some g → g ≠ v5.heap.size := fun g hg => by have := (World.ownsRow.lt T.2.1 g hg).2; omega); (have h67 : j6 < v5.heap.size := X.1); (replace X := X.below bb); (have G7 : ∀ g, (Value.slice a' (n + 1) c').ownBlock = some g → g ≠ v5.heap.size := fun g hg => by have := (World.ownsRow.lt O g hg).2; omega); (replace O := own_belK' O bb); (replace T := T.below bb); clear bb; generalize v5.heap.size = j7 at *; generalize v5.alloc (.cells #[.int .i64 0, .int .i64 0, .int .i64 0, .int .i64 0] 43) = v6 at *; (obtain ⟨n0, n1, n2, n3, n4, n5, n6⟩ := id T.1); (obtain ⟨y0, y1, y2, y3, y4, y5, y6⟩ := id X); (obtain ⟨⟨z0, z1, z2, z3, z4⟩, z5, z6, z7, z8⟩ := id Y)
             refine hK.out _ _ ?_ (fun hHeld => ?_)
             ·first | exact ⟨n1, n2, n3⟩ | (simp (maxDischargeDepth := 6) [go_sem, *]; done)
             clear hK K
             (try simp only [Act.put, List.setIfInBounds_toArray, List.set_cons_zero, List.set_cons_succ])
             refine wpAnyH_ready (rs := [14]) (by kernel_rfl) (by simp) ?_
             refine (AllReadyH.cons (by rw [List.getElem?_toArray]; rfl) (fun K hK => ?_) AllReadyH.nil)
             go_simp
             clear n0 n1 n2 n3 n4 n5 n6 y0 y1 y2 y3 y4 y5 y6 z0 z1 z2 z3 z4 z5 z6 z7 z8; (have bb : But j6 v6 (((v6.setCell ⟨j6, 0, none⟩ (.int .i64 ep)).setCell ⟨j6, 1, none⟩ (.int .i64 (us + 1))).setCell ⟨j6, 2, none⟩ (.slice a' (n + 1) c')) := put3_but _ _ _ _ _); (have cc : CurOk (((v6.setCell ⟨j6, 0, none⟩ (.int .i64 ep)).setCell ⟨j6, 1, none⟩ (.int .i64 (us + 1))).setCell ⟨j6, 2, none⟩ (.slice a' (n + 1) c')) B p := CurOk.put3 T.2.2.1 h6p (by omega) _ _ _); (replace T := T.other bb cc h6t hbt H6); (replace X : Bx3 (((v6.setCell ⟨j6, 0, none⟩ (.int .i64 ep)).setCell ⟨j6, 1, none⟩ (.int .i64 (us + 1))).setCell ⟨j6, 2, none⟩ (.slice a' (n + 1) c')) j6 (.int .i64 ep) (.int .i64 (us + 1)) (.slice a' (n + 1) c') := X.set _ _ _); (replace Y := Y.but bb (by omega)); (replace O := own_neK O bb G6); clear bb cc; generalize (((v6.setCell ⟨j6, 0, none⟩ (.int .i64 ep)).setCell ⟨j6, 1, none⟩ (.int .i64 (us + 1))).setCell ⟨j6, 2, none⟩ (.slice a' (n + 1) c')) = v7 at *; (obtain ⟨n0, n1, n2, n3, n4, n5, n6⟩ := id T.1); (obtain ⟨y0, y1, y2, y3, y4, y5, y6⟩ := id X); (obtain ⟨⟨z0, z1, z2, z3, z4⟩, z5, z6, z7, z8⟩ := id Y)
             refine hK.out _ _ ?_ (fun hHeld => ?_)
             ·first | exact ⟨n1, n2, n3⟩ | (simp (maxDischargeDepth := 6) [go_sem, *]; done)
             clear hK K
             (try simp only [Act.put, List.setIfInBounds_toArray, List.set_cons_zero, List.set_cons_succ])
             refine wpAnyH_ready (rs := [15]) (by kernel_rfl) (by simp) ?_
             refine (AllReadyH.cons (by rw [List.getElem?_toArray]; rfl) (fun K hK => ?_) AllReadyH.nil)
             go_simp
             clear n0 n1 n2 n3 n4 n5 n6 y0 y1 y2 y3 y4 y5 y6 z0 z1 z2 z3 z4 z5 z6 z7 z8; (have bb : But j7 v7 ((((v7.setCell ⟨j7, 0, none⟩ (.int .i64 nn)).setCell ⟨j7, 1, none⟩ (.int .i64 x1)).setCell ⟨j7, 2, none⟩ (.int .i64 x2)).setCell ⟨j7, 3, none⟩ (.int .i64 (IntKind.i64.wrap (1 + x3)))) := put4_but _ _ _ _ _ _); (have cc : CurOk ((((v7.setCell ⟨j7, 0, none⟩ (.int .i64 nn)).setCell ⟨j7, 1, none⟩ (.int .i64 x1)).setCell ⟨j7, 2, none⟩ (.int .i64 x2)).setCell ⟨j7, 3, none⟩ (.int .i64 (IntKind.i64.wrap (1 + x3)))) B p := CurOk.put4 T.2.2.1 h7p (by omega) _ _ _ _); (replace T := T.other bb cc h7t hbt H7); (replace X := X.but bb (by omega)); (replace O := own_neK O bb G7); clear bb cc Y; generalize ((((v7.setCell ⟨j7, 0, none⟩ (.int .i64 nn)).setCell ⟨j7, 1, none⟩ (.int .i64 x1)).setCell ⟨j7, 2, none⟩ (.int .i64 x2)).setCell ⟨j7, 3, none⟩ (.int .i64 (IntKind.i64.wrap (1 + x3)))) = v8 at *; (obtain ⟨n0, n1, n2, n3, n4, n5, n6⟩ := id T.1); (obtain ⟨y0, y1, y2, y3, y4, y5, y6⟩ := id X)
             refine hK.out _ _ ?_ (fun hHeld => ?_)
             ·first | exact ⟨n1, n2, n3⟩ | (simp (maxDischargeDepth := 6) [go_sem, *]; done)
             clear hK K
             (try simp only [Act.put, List.setIfInBounds_toArray, List.set_cons_zero, List.set_cons_succ])
             refine wpAnyH_done (by kernel_rfl) ?_ _
             (try go_wp2_with fail)
             go_meet
             case rel => exact ⟨j6, a', c', x1, x2, _, rfl, by omega, ⟨x1l, x1h⟩, X, O, T⟩
            ·go_simp
             clear n0 n1 n2 n3 n4 n5 n6 y0 y1 y2 y3 y4 y5 y6; (have bb := Below.nw v4 (.cells #[.int .i64 0, .int .i64 0, .int .i64 0, .int .i64 0] 43)); (have Y := Bf4.new v4 0 0 0 0 43); (have h7t : bt < v4.heap.size := T.1.1); (have h7p : v4.heap.size ≠ p := by omega); (have H7 : ∀ g, (Value.slice A n c).ownBlock = some g → g ≠ v4.heap.size := fun g hg => by have := (World.ownsRow.lt T.2.1 g hg).2; omega); (have h67 : j6 < v4.heap.size := X.1); (replace X := X.below bb); (replace T := T.below bb); clear bb; generalize v4.heap.size = j7 at *; generalize v4.alloc (.cells #[.int .i64 0, .int .i64 0, .int .i64 0, .int .i64 0] 43) = v5 at *; (obtain ⟨n0, n1, n2, n3, n4, n5, n6⟩ := id T.1); (obtain ⟨y0, y1, y2, y3, y4, y5, y6⟩ := id X); (obtain ⟨⟨z0, z1, z2, z3, z4⟩, z5, z6, z7, z8⟩ := id Y)
             refine hK.out _ _ ?_ (fun hHeld => ?_)
             ·first | exact ⟨n1, n2, n3⟩ | (simp (maxDischargeDepth := 6) [go_sem, *]; done)
             clear hK K
             (try simp only [Act.put, List.setIfInBounds_toArray, List.set_cons_zero, List.set_cons_succ])
             refine wpAnyH_ready (rs := [8]) (by kernel_rfl) (by simp) ?_
             refine (AllReadyH.cons (by rw [List.getElem?_toArray]; rfl) (fun K hK => ?_) AllReadyH.nil)
             go_simp
             refine (l7Put_opt ep us _ _ _ nn A n c M _ (by omega) (FromsO.own T.2.1) hep hus HNN.out).mono ?_; rintro e v6 ⟨a', c', rfl, O, bb⟩; clear n0 n1 n2 n3 n4 n5 n6 y0 y1 y2 y3 y4 y5 y6 z0 z1 z2 z3 z4 z5 z6 z7 z8; (have hsz : w.heap.size + 1 ≤ v5.heap.size := Nat.le_of_lt (Nat.lt_of_le_of_lt hbt T.1.1)); (replace T := T.below bb); (have G6 : ∀ g, (Value.slice a' (n + 1) c').ownBlock = some g → g ≠ j6 := fun g hg => by have := (World.ownsRow.lt O g hg).1; have := X.1; omega); (replace X := X.below bb); (have G7 : ∀ g, (Value.slice a' (n + 1) c').ownBlock = some g → g ≠ j7 := fun g hg => by have := (World.ownsRow.lt O g hg).1; have := Y.1.1; omega); (replace Y := Y.below bb); (replace O := ownK_le O hsz); clear bb hsz; (obtain ⟨n0, n1, n2, n3, n4, n5, n6⟩ := id T.1); (obtain ⟨y0, y1, y2, y3, y4, y5, y6⟩ := id X); (obtain ⟨⟨z0, z1, z2, z3, z4⟩, z5, z6, z7, z8⟩ := id Y)
             (try go_wp2_with fail)
             refine hK.out _ _ ?_ (fun hHeld => ?_)
             ·first | exact ⟨n1, n2, n3⟩ | (simp (maxDischargeDepth := 6) [go_sem, *]; done)
             clear hK K
             (try simp only [Act.put, List.setIfInBounds_toArray, List.set_cons_zero, List.set_cons_succ])
             refine wpAnyH_take (i := 9) (v := ?_) (by rw [List.getElem?_toArray]; rfl) (by kernel_rfl) (by kernel_rfl) (by kernel_rfl) (by intro _ _ _ h; exact h) (Or.inl ⟨by rfl, ?_⟩) (by assumption) ?_
             rotate_left
             ·(intro w hSw; (try dsimp only at hSw); go_simp; all_goals with_reducible rfl)
             (try simp only [Act.put, List.setIfInBounds_toArray, List.set_cons_zero, List.set_cons_succ])
             refine wpAnyH_take (i := 10) (v := ?_) (by rw [List.getElem?_toArray]; rfl) (by kernel_rfl) (by kernel_rfl) (by kernel_rfl) (by intro _ _ _ h; exact h) (Or.inl ⟨by rfl, ?_⟩) (by assumption) ?_
             rotate_left
             ·(intro w hSw; (try dsimp only at hSw); go_simp; all_goals with_reducible rfl)
             (try simp only [Act.put, List.setIfInBounds_toArray, List.set_cons_zero, List.set_cons_succ])
             refine wpAnyH_take (i := 11) (v := ?_) (by rw [List.getElem?_toArray]; rfl) (by kernel_rfl) (by kernel_rfl) (by kernel_rfl) (by intro _ _ _ h; exact h) (Or.inl ⟨by rfl, ?_⟩) (by assumption) ?_
             rotate_left
             ·(intro w hSw; (try dsimp only at hSw); go_simp; all_goals with_reducible rfl)
             (try simp only [Act.put, List.setIfInBounds_toArray, List.set_cons_zero, List.set_cons_succ])
             refine wpAnyH_ready (rs := [14]) (by kernel_rfl) (by simp) ?_
             refine (AllReadyH.cons (by rw [List.getElem?_toArray]; rfl) (fun K hK => ?_) AllReadyH.nil)
             go_simp
             clear n0 n1 n2 n3 n4 n5 n6 y0 y1 y2 y3 y4 y5 y6 z0 z1 z2 z3 z4 z5 z6 z7 z8; (have bb : But j6 v6 (((v6.setCell ⟨j6, 0, none⟩ (.int .i64 ep)).setCell ⟨j6, 1, none⟩ (.int .i64 (us + 1))).setCell ⟨j6, 2, none⟩ (.slice a' (n + 1) c')) := put3_but _ _ _ _ _); (have cc : CurOk (((v6.setCell ⟨j6, 0, none⟩ (.int .i64 ep)).setCell ⟨j6, 1, none⟩ (.int .i64 (us + 1))).setCell ⟨j6, 2, none⟩ (.slice a' (n + 1) c')) B p := CurOk.put3 T.2.2.1 h6p (by omega) _ _ _); (replace T := T.other bb cc h6t hbt H6); (replace X : Bx3 (((v6.setCell ⟨j6, 0, none⟩ (.int .i64 ep)).setCell ⟨j6, 1, none⟩ (.int .i64 (us + 1))).setCell ⟨j6, 2, none⟩ (.slice a' (n + 1) c')) j6 (.int .i64 ep) (.int .i64 (us + 1)) (.slice a' (n + 1) c') := X.set _ _ _); (replace Y := Y.but bb (by omega)); (replace O := own_neK O bb G6); clear bb cc; generalize (((v6.setCell ⟨j6, 0, none⟩ (.int .i64 ep)).setCell ⟨j6, 1, none⟩ (.int .i64 (us + 1))).setCell ⟨j6, 2, none⟩ (.slice a' (n + 1) c')) = v7 at *; (obtain ⟨n0, n1, n2, n3, n4, n5, n6⟩ := id T.1); (obtain ⟨y0, y1, y2, y3, y4, y5, y6⟩ := id X); (obtain ⟨⟨z0, z1, z2, z3, z4⟩, z5, z6, z7, z8⟩ := id Y)
             refine hK.out _ _ ?_ (fun hHeld => ?_)
             ·first | exact ⟨n1, n2, n3⟩ | (simp (maxDischargeDepth := 6) [go_sem, *]; done)
             clear hK K
             (try simp only [Act.put, List.setIfInBounds_toArray, List.set_cons_zero, List.set_cons_succ])
             refine wpAnyH_ready (rs := [15]) (by kernel_rfl) (by simp) ?_
             refine (AllReadyH.cons (by rw [List.getElem?_toArray]; rfl) (fun K hK => ?_) AllReadyH.nil)
             go_simp
             clear n0 n1 n2 n3 n4 n5 n6 y0 y1 y2 y3 y4 y5 y6 z0 z1 z2 z3 z4 z5 z6 z7 z8; (have bb : But j7 v7 ((((v7.setCell ⟨j7, 0, none⟩ (.int .i64 nn)).setCell ⟨j7, 1, none⟩ (.int .i64 x1)).setCell ⟨j7, 2, none⟩ (.int .i64 x2)).setCell ⟨j7, 3, none⟩ (.int .i64 (IntKind.i64.wrap (1 + x3)))) := put4_but _ _ _ _ _ _); (have cc : CurOk ((((v7.setCell ⟨j7, 0, none⟩ (.int .i64 nn)).setCell ⟨j7, 1, none⟩ (.int .i64 x1)).setCell ⟨j7, 2, none⟩ (.int .i64 x2)).setCell ⟨j7, 3, none⟩ (.int .i64 (IntKind.i64.wrap (1 + x3)))) B p := CurOk.put4 T.2.2.1 h7p (by omega) _ _ _ _); (replace T := T.other bb cc h7t hbt H7); (replace X := X.but bb (by omega)); (replace O := own_neK O bb G7); clear bb cc Y; generalize ((((v7.setCell ⟨j7, 0, none⟩ (.int .i64 nn)).setCell ⟨j7, 1, none⟩ (.int .i64 x1)).setCell ⟨j7, 2, none⟩ (.int .i64 x2)).setCell ⟨j7, 3, none⟩ (.int .i64 (IntKind.i64.wrap (1 + x3)))) = v8 at *; (obtain ⟨n0, n1, n2, n3, n4, n5, n6⟩ := id T.1); (obtain ⟨y0, y1, y2, y3, y4, y5, y6⟩ := id X)
             refine hK.out _ _ ?_ (fun hHeld => ?_)
             ·first | exact ⟨n1, n2, n3⟩ | (simp (maxDischargeDepth := 6) [go_sem, *]; done)
             clear hK K
             (try simp only [Act.put, List.setIfInBounds_toArray, List.set_cons_zero, List.set_cons_succ])
             refine wpAnyH_done (by kernel_rfl) ?_ _
             (try go_wp2_with fail)
             go_meet
             case rel => exact ⟨j6, a', c', x1, x2, _, rfl, by omega, ⟨x1l, x1h⟩, X, O, T⟩
           ·go_simp
            clear n0 n1 n2 n3 n4 n5 n6 y0 y1 y2 y3 y4 y5 y6; (have bb := Below.nw v3 (.cells #[.int .i64 0, .int .i64 0, .int .i64 0, .int .i64 0] 43)); (have Y := Bf4.new v3 0 0 0 0 43); (have h7t : bt < v3.heap.size := T.1.1); (have h7p : v3.heap.size ≠ p := by omega); (have H7 : ∀ g, (Value.slice A n c).ownBlock = some g → g ≠ v3.heap.size := fun g hg => by have := (World.ownsRow.lt T.2.1 g hg).2; omega); (have h67 : j6 < v3.heap.size := X.1); (replace X := X.below bb); (replace T := T.below bb); clear bb; generalize v3.heap.size = j7 at *; generalize v3.alloc (.cells #[.int .i64 0, .int .i64 0, .int .i64 0, .int .i64 0] 43) = v4 at *; (obtain ⟨n0, n1, n2, n3, n4, n5, n6⟩ := id T.1); (obtain ⟨y0, y1, y2, y3, y4, y5, y6⟩ := id X); (obtain ⟨⟨z0, z1, z2, z3, z4⟩, z5, z6, z7, z8⟩ := id Y)
            refine hK.out _ _ ?_ (fun hHeld => ?_)
            ·first | exact ⟨n1, n2, n3⟩ | (simp (maxDischargeDepth := 6) [go_sem, *]; done)
            clear hK K
            (try simp only [Act.put, List.setIfInBounds_toArray, List.set_cons_zero, List.set_cons_succ])
            refine wpAnyH_ready (rs := [6]) (by kernel_rfl) (by simp) ?_
            refine (AllReadyH.cons (by rw [List.getElem?_toArray]; rfl) (fun K hK => ?_) AllReadyH.nil)
            go_simp
            refine (l1Below_any B p 4 _ T.2.2.1).mono ?_; rintro e v5 ⟨x3, rfl, x3l, x3h, _, _, cc, bb⟩; clear n0 n1 n2 n3 n4 n5 n6 y0 y1 y2 y3 y4 y5 y6 z0 z1 z2 z3 z4 z5 z6 z7 z8; (replace T := T.but cc bb hp hbt); (replace X := X.but bb h6p); (replace Y := Y.but bb h7p); clear cc bb; (obtain ⟨n0, n1, n2, n3, n4, n5, n6⟩ := id T.1); (obtain ⟨y0, y1, y2, y3, y4, y5, y6⟩ := id X); (obtain ⟨⟨z0, z1, z2, z3, z4⟩, z5, z6, z7, z8⟩ := id Y)
            (try go_wp2_with fail)
            refine hK.out _ _ ?_ (fun hHeld => ?_)
            ·first | exact ⟨n1, n2, n3⟩ | (simp (maxDischargeDepth := 6) [go_sem, *]; done)
            clear hK K
            (try simp only [Act.put, List.setIfInBounds_toArray, List.set_cons_zero, List.set_cons_succ])
            refine wpAnyH_take (i := 7) (v := ?_) (by rw [List.getElem?_toArray]; rfl) (by kernel_rfl) (by kernel_rfl) (by kernel_rfl) (by intro _ _ _ h; exact h) (Or.inl ⟨by rfl, ?_⟩) (by assumption) ?_
            rotate_left
            ·(intro w hSw; (try dsimp only at hSw); go_simp; all_goals with_reducible rfl)
            (try simp only [Act.put, List.setIfInBounds_toArray, List.set_cons_zero, List.set_cons_succ])
            refine wpAnyH_ready (rs := [8]) (by kernel_rfl) (by simp) ?_
            refine (AllReadyH.cons (by rw [List.getElem?_toArray]; rfl) (fun K hK => ?_) AllReadyH.nil)
            go_simp
            refine (l7Put_opt ep us _ _ _ nn A n c M _ (by omega) (FromsO.own T.2.1) hep hus HNN.out).mono ?_; rintro e v6 ⟨a', c', rfl, O, bb⟩; clear n0 n1 n2 n3 n4 n5 n6 y0 y1 y2 y3 y4 y5 y6 z0 z1 z2 z3 z4 z5 z6 z7 z8; (have hsz : w.heap.size + 1 ≤ v5.heap.size := Nat.le_of_lt (Nat.lt_of_le_of_lt hbt T.1.1)); (replace T := T.below bb); (have G6 : ∀ g, (Value.slice a' (n + 1) c').ownBlock = some g → g ≠ j6 := fun g hg => by have := (World.ownsRow.lt O g hg).1; have := X.1; omega); (replace X := X.below bb); (have G7 : ∀ g, (Value.slice a' (n + 1) c').ownBlock = some g → g ≠ j7 := fun g hg => by have := (World.ownsRow.lt O g hg).1; have := Y.1.1; omega); (replace Y := Y.below bb); (replace O := ownK_le O hsz); clear bb hsz; (obtain ⟨n0, n1, n2, n3, n4, n5, n6⟩ := id T.1); (obtain ⟨y0, y1, y2, y3, y4, y5, y6⟩ := id X); (obtain ⟨⟨z0, z1, z2, z3, z4⟩, z5, z6, z7, z8⟩ := id Y)
            (try go_wp2_with fail)
            refine hK.out _ _ ?_ (fun hHeld => ?_)
            ·first | exact ⟨n1, n2, n3⟩ | (simp (maxDischargeDepth := 6) [go_sem, *]; done)
            clear hK K
            (try simp only [Act.put, List.setIfInBounds_toArray, List.set_cons_zero, List.set_cons_succ])
            refine wpAnyH_take (i := 9) (v := ?_) (by rw [List.getElem?_toArray]; rfl) (by kernel_rfl) (by kernel_rfl) (by kernel_rfl) (by intro _ _ _ h; exact h) (Or.inl ⟨by rfl, ?_⟩) (by assumption) ?_
            rotate_left
            ·(intro w hSw; (try dsimp only at hSw); go_simp; all_goals with_reducible rfl)
            (try simp only [Act.put, List.setIfInBounds_toArray, List.set_cons_zero, List.set_cons_succ])
            refine wpAnyH_take (i := 10) (v := ?_) (by rw [List.getElem?_toArray]; rfl) (by kernel_rfl) (by kernel_rfl) (by kernel_rfl) (by intro _ _ _ h; exact h) (Or.inl ⟨by rfl, ?_⟩) (by assumption) ?_
            rotate_left
            ·(intro w hSw; (try dsimp only at hSw); go_simp; all_goals with_reducible rfl)
            (try simp only [Act.put, List.setIfInBounds_toArray, List.set_cons_zero, List.set_cons_succ])
            refine wpAnyH_take (i := 11) (v := ?_) (by rw [List.getElem?_toArray]; rfl) (by kernel_rfl) (by kernel_rfl) (by kernel_rfl) (by intro _ _ _ h; exact h) (Or.inl ⟨by rfl, ?_⟩) (by assumption) ?_
            rotate_left
            ·(intro w hSw; (try dsimp only at hSw); go_simp; all_goals with_reducible rfl)
            (try simp only [Act.put, List.setIfInBounds_toArray, List.set_cons_zero, List.set_cons_succ])
            refine wpAnyH_ready (rs := [14]) (by kernel_rfl) (by simp) ?_
            refine (AllReadyH.cons (by rw [List.getElem?_toArray]; rfl) (fun K hK => ?_) AllReadyH.nil)
            go_simp
            clear n0 n1 n2 n3 n4 n5 n6 y0 y1 y2 y3 y4 y5 y6 z0 z1 z2 z3 z4 z5 z6 z7 z8; (have bb : But j6 v6 (((v6.setCell ⟨j6, 0, none⟩ (.int .i64 ep)).setCell ⟨j6, 1, none⟩ (.int .i64 (us + 1))).setCell ⟨j6, 2, none⟩ (.slice a' (n + 1) c')) := put3_but _ _ _ _ _); (have cc : CurOk (((v6.setCell ⟨j6, 0, none⟩ (.int .i64 ep)).setCell ⟨j6, 1, none⟩ (.int .i64 (us + 1))).setCell ⟨j6, 2, none⟩ (.slice a' (n + 1) c')) B p := CurOk.put3 T.2.2.1 h6p (by omega) _ _ _); (replace T := T.other bb cc h6t hbt H6); (replace X : Bx3 (((v6.setCell ⟨j6, 0, none⟩ (.int .i64 ep)).setCell ⟨j6, 1, none⟩ (.int .i64 (us + 1))).setCell ⟨j6, 2, none⟩ (.slice a' (n + 1) c')) j6 (.int .i64 ep) (.int .i64 (us + 1)) (.slice a' (n + 1) c') := X.set _ _ _); (replace Y := Y.but bb (by omega)); (replace O := own_neK O bb G6); clear bb cc; generalize (((v6.setCell ⟨j6, 0, none⟩ (.int .i64 ep)).setCell ⟨j6, 1, none⟩ (.int .i64 (us + 1))).setCell ⟨j6, 2, none⟩ (.slice a' (n + 1) c')) = v7 at *; (obtain ⟨n0, n1, n2, n3, n4, n5, n6⟩ := id T.1); (obtain ⟨y0, y1, y2, y3, y4, y5, y6⟩ := id X); (obtain ⟨⟨z0, z1, z2, z3, z4⟩, z5, z6, z7, z8⟩ := id Y)
            refine hK.out _ _ ?_ (fun hHeld => ?_)
            ·first | exact ⟨n1, n2, n3⟩ | (simp (maxDischargeDepth := 6) [go_sem, *]; done)
            clear hK K
            (try simp only [Act.put, List.setIfInBounds_toArray, List.set_cons_zero, List.set_cons_succ])
            refine wpAnyH_ready (rs := [15]) (by kernel_rfl) (by simp) ?_
            refine (AllReadyH.cons (by rw [List.getElem?_toArray]; rfl) (fun K hK => ?_) AllReadyH.nil)
            go_simp
            clear n0 n1 n2 n3 n4 n5 n6 y0 y1 y2 y3 y4 y5 y6 z0 z1 z2 z3 z4 z5 z6 z7 z8; (have bb : But j7 v7 ((((v7.setCell ⟨j7, 0, none⟩ (.int .i64 nn)).setCell ⟨j7, 1, none⟩ (.int .i64 x1)).setCell ⟨j7, 2, none⟩ (.int .i64 x2)).setCell ⟨j7, 3, none⟩ (.int .i64 (IntKind.i64.wrap (1 + x3)))) := put4_but _ _ _ _ _ _); (have cc : CurOk ((((v7.setCell ⟨j7, 0, none⟩ (.int .i64 nn)).setCell ⟨j7, 1, none⟩ (.int .i64 x1)).setCell ⟨j7, 2, none⟩ (.int .i64 x2)).setCell ⟨j7, 3, none⟩ (.int .i64 (IntKind.i64.wrap (1 + x3)))) B p := CurOk.put4 T.2.2.1 h7p (by omega) _ _ _ _); (replace T := T.other bb cc h7t hbt H7); (replace X := X.but bb (by omega)); (replace O := own_neK O bb G7); clear bb cc Y; generalize ((((v7.setCell ⟨j7, 0, none⟩ (.int .i64 nn)).setCell ⟨j7, 1, none⟩ (.int .i64 x1)).setCell ⟨j7, 2, none⟩ (.int .i64 x2)).setCell ⟨j7, 3, none⟩ (.int .i64 (IntKind.i64.wrap (1 + x3)))) = v8 at *; (obtain ⟨n0, n1, n2, n3, n4, n5, n6⟩ := id T.1); (obtain ⟨y0, y1, y2, y3, y4, y5, y6⟩ := id X)
            refine hK.out _ _ ?_ (fun hHeld => ?_)
            ·first | exact ⟨n1, n2, n3⟩ | (simp (maxDischargeDepth := 6) [go_sem, *]; done)
            clear hK K
            (try simp only [Act.put, List.setIfInBounds_toArray, List.set_cons_zero, List.set_cons_succ])
            refine wpAnyH_done (by kernel_rfl) ?_ _
            (try go_wp2_with fail)
            go_meet
            case rel => exact ⟨j6, a', c', x1, x2, _, rfl, by omega, ⟨x1l, x1h⟩, X, O, T⟩
          ·go_simp
           clear n0 n1 n2 n3 n4 n5 n6 y0 y1 y2 y3 y4 y5 y6; (have bb := Below.nw v2 (.cells #[.int .i64 0, .int .i64 0, .int .i64 0, .int .i64 0] 43)); (have Y := Bf4.new v2 0 0 0 0 43); (have h7t : bt < v2.heap.size := T.1.1); (have h7p : v2.heap.size ≠ p := by omega); (have H7 : ∀ g, (Value.slice A n c).ownBlock = some g → g ≠ v2.heap.size := fun g hg => by have := (World.ownsRow.lt T.2.1 g hg).2; omega); (have h67 : j6 < v2.heap.size := X.1); (replace X := X.below bb); (replace T := T.below bb); clear bb; generalize v2.heap.size = j7 at *; generalize v2.alloc (.cells #[.int .i64 0, .int .i64 0, .int .i64 0, .int .i64 0] 43) = v3 at *; (obtain ⟨n0, n1, n2, n3, n4, n5, n6⟩ := id T.1); (obtain ⟨y0, y1, y2, y3, y4, y5, y6⟩ := id X); (obtain ⟨⟨z0, z1, z2, z3, z4⟩, z5, z6, z7, z8⟩ := id Y)
           refine hK.out _ _ ?_ (fun hHeld => ?_)
           ·first | exact ⟨n1, n2, n3⟩ | (simp (maxDischargeDepth := 6) [go_sem, *]; done)
           clear hK K
           (try simp only [Act.put, List.setIfInBounds_toArray, List.set_cons_zero, List.set_cons_succ])
           refine wpAnyH_ready (rs := [4]) (by kernel_rfl) (by simp) ?_
           refine (AllReadyH.cons (by rw [List.getElem?_toArray]; rfl) (fun K hK => ?_) AllReadyH.nil)
           go_simp
           refine (l1Below_any B p 60 _ T.2.2.1).mono ?_; rintro e v4 ⟨x2, rfl, x2l, x2h, _, _, cc, bb⟩; clear n0 n1 n2 n3 n4 n5 n6 y0 y1 y2 y3 y4 y5 y6 z0 z1 z2 z3 z4 z5 z6 z7 z8; (replace T := T.but cc bb hp hbt); (replace X := X.but bb h6p); (replace Y := Y.but bb h7p); clear cc bb; (obtain ⟨n0, n1, n2, n3, n4, n5, n6⟩ := id T.1); (obtain ⟨y0, y1, y2, y3, y4, y5, y6⟩ := id X); (obtain ⟨⟨z0, z1, z2, z3, z4⟩, z5, z6, z7, z8⟩ := id Y)
           (try go_wp2_with fail)
           refine hK.out _ _ ?_ (fun hHeld => ?_)
           ·first | exact ⟨n1, n2, n3⟩ | (simp (maxDischargeDepth := 6) [go_sem, *]; done)
           clear hK K
           (try simp only [Act.put, List.setIfInBounds_toArray, List.set_cons_zero, List.set_cons_succ])
           refine wpAnyH_ready (rs := [6]) (by kernel_rfl) (by simp) ?_
           refine (AllReadyH.cons (by rw [List.getElem?_toArray]; rfl) (fun K hK => ?_) AllReadyH.nil)
           go_simp
           refine (l1Below_any B p 4 _ T.2.2.1).mono ?_; rintro e v5 ⟨x3, rfl, x3l, x3h, _, _, cc, bb⟩; clear n0 n1 n2 n3 n4 n5 n6 y0 y1 y2 y3 y4 y5 y6 z0 z1 z2 z3 z4 z5 z6 z7 z8; (replace T := T.but cc bb hp hbt); (replace X := X.but bb h6p); (replace Y := Y.but bb h7p); clear cc bb; (obtain ⟨n0, n1, n2, n3, n4, n5, n6⟩ := id T.1); (obtain ⟨y0, y1, y2, y3, y4, y5, y6⟩ := id X); (obtain ⟨⟨z0, z1, z2, z3, z4⟩, z5, z6, z7, z8⟩ := id Y)
           (try go_wp2_with fail)
           refine hK.out _ _ ?_ (fun hHeld => ?_)
           ·first | exact ⟨n1, n2, n3⟩ | (simp (maxDischargeDepth := 6) [go_sem, *]; done)
           clear hK K
           (try simp only [Act.put, List.setIfInBounds_toArray, List.set_cons_zero, List.set_cons_succ])
           refine wpAnyH_take (i := 7) (v := ?_) (by rw [List.getElem?_toArray]; rfl) (by kernel_rfl) (by kernel_rfl) (by kernel_rfl) (by intro _ _ _ h; exact h) (Or.inl ⟨by rfl, ?_⟩) (by assumption) ?_
           rotate_left
           ·(intro w hSw; (try dsimp only at hSw); go_simp; all_goals with_reducible rfl)
           (try simp only [Act.put, List.setIfInBounds_toArray, List.set_cons_zero, List.set_cons_succ])
           refine wpAnyH_ready (rs := [8]) (by kernel_rfl) (by simp) ?_
           refine (AllReadyH.cons (by rw [List.getElem?_toArray]; rfl) (fun K hK => ?_) AllReadyH.nil)
           go_simp
           refine (l7Put_opt ep us _ _ _ nn A n c M _ (by omega) (FromsO.own T.2.1) hep hus HNN.out).mono ?_; rintro e v6 ⟨a', c', rfl, O, bb⟩; clear n0 n1 n2 n3 n4 n5 n6 y0 y1 y2 y3 y4 y5 y6 z0 z1 z2 z3 z4 z5 z6 z7 z8; (have hsz : w.heap.size + 1 ≤ v5.heap.size := Nat.le_of_lt (Nat.lt_of_le_of_lt hbt T.1.1)); (replace T := T.below bb); (have G6 : ∀ g, (Value.slice a' (n + 1) c').ownBlock = some g → g ≠ j6 := fun g hg => by have := (World.ownsRow.lt O g hg).1; have := X.1; omega); (replace X := X.below bb); (have G7 : ∀ g, (Value.slice a' (n + 1) c').ownBlock = some g → g ≠ j7 := fun g hg => by have := (World.ownsRow.lt O g hg).1; have := Y.1.1; omega); (replace Y := Y.below bb); (replace O := ownK_le O hsz); clear bb hsz; (obtain ⟨n0, n1, n2, n3, n4, n5, n6⟩ := id T.1); (obtain ⟨y0, y1, y2, y3, y4, y5, y6⟩ := id X); (obtain ⟨⟨z0, z1, z2, z3, z4⟩, z5, z6, z7, z8⟩ := id Y)
           (try go_wp2_with fail)
           refine hK.out _ _ ?_ (fun hHeld => ?_)
           ·first | exact ⟨n1, n2, n3⟩ | (simp (maxDischargeDepth := 6) [go_sem, *]; done)
           clear hK K
           (try simp only [Act.put, List.setIfInBounds_toArray, List.set_cons_zero, List.set_cons_succ])
           refine wpAnyH_take (i := 9) (v := ?_) (by rw [List.getElem?_toArray]; rfl) (by kernel_rfl) (by kernel_rfl) (by kernel_rfl) (by intro _ _ _ h; exact h) (Or.inl ⟨by rfl, ?_⟩) (by assumption) ?_
           rotate_left
           ·(intro w hSw; (try dsimp only at hSw); go_simp; all_goals with_reducible rfl)
           (try simp only [Act.put, List.setIfInBounds_toArray, List.set_cons_zero, List.set_cons_succ])
           refine wpAnyH_take (i := 10) (v := ?_) (by rw [List.getElem?_toArray]; rfl) (by kernel_rfl) (by kernel_rfl) (by kernel_rfl) (by intro _ _ _ h; exact h) (Or.inl ⟨by rfl, ?_⟩) (by assumption) ?_
           rotate_left
           ·(intro w hSw; (try dsimp only at hSw); go_simp; all_goals with_reducible rfl)
           (try simp only [Act.put, List.setIfInBounds_toArray, List.set_cons_zero, List.set_cons_succ])
           refine wpAnyH_take (i := 11) (v := ?_) (by rw [List.getElem?_toArray]; rfl) (by kernel_rfl) (by kernel_rfl) (by kernel_rfl) (by intro _ _ _ h; exact h) (Or.inl ⟨by rfl, ?_⟩) (by assumption) ?_
           rotate_left
           ·(intro w hSw; (try dsimp only at hSw); go_simp; all_goals with_reducible rfl)
           (try simp only [Act.put, List.setIfInBounds_toArray, List.set_cons_zero, List.set_cons_succ])
           refine wpAnyH_ready (rs := [14]) (by kernel_rfl) (by simp) ?_
           refine (AllReadyH.cons (by rw [List.getElem?_toArray]; rfl) (fun K hK => ?_) AllReadyH.nil)
           go_simp
           clear n0 n1 n2 n3 n4 n5 n6 y0 y1 y2 y3 y4 y5 y6 z0 z1 z2 z3 z4 z5 z6 z7 z8; (have bb : But j6 v6 (((v6.setCell ⟨j6, 0, none⟩ (.int .i64 ep)).setCell ⟨j6, 1, none⟩ (.int .i64 (us + 1))).setCell ⟨j6, 2, none⟩ (.slice a' (n + 1) c')) := put3_but _ _ _ _ _); (have cc : CurOk (((v6.setCell ⟨j6, 0, none⟩ (.int .i64 ep)).setCell ⟨j6, 1, none⟩ (.int .i64 (us + 1))).setCell ⟨j6, 2, none⟩ (.slice a' (n + 1) c')) B p := CurOk.put3 T.2.2.1 h6p (by omega) _ _ _); (replace T := T.other bb cc h6t hbt H6); (replace X : Bx3 (((v6.setCell ⟨j6, 0, none⟩ (.int .i64 ep)).setCell ⟨j6, 1, none⟩ (.int .i64 (us + 1))).setCell ⟨j6, 2, none⟩ (.slice a' (n + 1) c')) j6 (.int .i64 ep) (.int .i64 (us + 1)) (.slice a' (n + 1) c') := X.set _ _ _); (replace Y := Y.but bb (by omega)); (replace O := own_neK O bb G6); clear bb cc; generalize (((v6.setCell ⟨j6, 0, none⟩ (.int .i64 ep)).setCell ⟨j6, 1, none⟩ (.int .i64 (us + 1))).setCell ⟨j6, 2, none⟩ (.slice a' (n + 1) c')) = v7 at *; (obtain ⟨n0, n1, n2, n3, n4, n5, n6⟩ := id T.1); (obtain ⟨y0, y1, y2, y3, y4, y5, y6⟩ := id X); (obtain ⟨⟨z0, z1, z2, z3, z4⟩, z5, z6, z7, z8⟩ := id Y)
           refine hK.out _ _ ?_ (fun hHeld => ?_)
           ·first | exact ⟨n1, n2, n3⟩ | (simp (maxDischargeDepth := 6) [go_sem, *]; done)
           clear hK K
           (try simp only [Act.put, List.setIfInBounds_toArray, List.set_cons_zero, List.set_cons_succ])
           refine wpAnyH_ready (rs := [15]) (by kernel_rfl) (by simp) ?_
           refine (AllReadyH.cons (by rw [List.getElem?_toArray]; rfl) (fun K hK => ?_) AllReadyH.nil)
           go_simp
           clear n0 n1 n2 n3 n4 n5 n6 y0 y1 y2 y3 y4 y5 y6 z0 z1 z2 z3 z4 z5 z6 z7 z8; (have bb : But j7 v7 ((((v7.setCell ⟨j7, 0, none⟩ (.int .i64 nn)).setCell ⟨j7, 1, none⟩ (.int .i64 x1)).setCell ⟨j7, 2, none⟩ (.int .i64 x2)).setCell ⟨j7, 3, none⟩ (.int .i64 (IntKind.i64.wrap (1 + x3)))) := put4_but _ _ _ _ _ _); (have cc : CurOk ((((v7.setCell ⟨j7, 0, none⟩ (.int .i64 nn)).setCell ⟨j7, 1, none⟩ (.int .i64 x1)).setCell ⟨j7, 2, none⟩ (.int .i64 x2)).setCell ⟨j7, 3, none⟩ (.int .i64 (IntKind.i64.wrap (1 + x3)))) B p := CurOk.put4 T.2.2.1 h7p (by omega) _ _ _ _); (replace T := T.other bb cc h7t hbt H7); (replace X := X.but bb (by omega)); (replace O := own_neK O bb G7); clear bb cc Y; generalize ((((v7.setCell ⟨j7, 0, none⟩ (.int .i64 nn)).setCell ⟨j7, 1, none⟩ (.int .i64 x1)).setCell ⟨j7, 2, none⟩ (.int .i64 x2)).setCell ⟨j7, 3, none⟩ (.int .i64 (IntKind.i64.wrap (1 + x3)))) = v8 at *; (obtain ⟨n0, n1, n2, n3, n4, n5, n6⟩ := id T.1); (obtain ⟨y0, y1, y2, y3, y4, y5, y6⟩ := id X)
           refine hK.out _ _ ?_ (fun hHeld => ?_)
           ·first | exact ⟨n1, n2, n3⟩ | (simp (maxDischargeDepth := 6) [go_sem, *]; done)
           clear hK K
           (try simp only [Act.put, List.setIfInBounds_toArray, List.set_cons_zero, List.set_cons_succ])
           refine wpAnyH_done (by kernel_rfl) ?_ _
           (try go_wp2_with fail)
           go_meet
           case rel => exact ⟨j6, a', c', x1, x2, _, rfl, by omega, ⟨x1l, x1h⟩, X, O, T⟩
         ·go_simp
          clear n0 n1 n2 n3 n4 n5 n6 y0 y1 y2 y3 y4 y5 y6; (have bb := Below.nw v1 (.cells #[.int .i64 0, .int .i64 0, .int .i64 0, .int .i64 0] 43)); (have Y := Bf4.new v1 0 0 0 0 43); (have h7t : bt < v1.heap.size := T.1.1); (have h7p : v1.heap.size ≠ p := by omega); (have H7 : ∀ g, (Value.slice A n c).ownBlock = some g → g ≠ v1.heap.size := fun g hg => by have := (World.ownsRow.lt T.2.1 g hg).2; omega); (have h67 : j6 < v1.heap.size := X.1); (replace X := X.below bb); (replace T := T.below bb); clear bb; generalize v1.heap.size = j7 at *; generalize v1.alloc (.cells #[.int .i64 0, .int .i64 0, .int .i64 0, .int .i64 0] 43) = v2 at *; (obtain ⟨n0, n1, n2, n3, n4, n5, n6⟩ := id T.1); (obtain ⟨y0, y1, y2, y3, y4, y5, y6⟩ := id X); (obtain ⟨⟨z0, z1, z2, z3, z4⟩, z5, z6, z7, z8⟩ := id Y)
          refine hK.out _ _ ?_ (fun hHeld => ?_)
          ·first | exact ⟨n1, n2, n3⟩ | (simp (maxDischargeDepth := 6) [go_sem, *]; done)
          clear hK K
          (try simp only [Act.put, List.setIfInBounds_toArray, List.set_cons_zero, List.set_cons_succ])
          refine wpAnyH_ready (rs := [2]) (by kernel_rfl) (by simp) ?_
          refine (AllReadyH.cons (by rw [List.getElem?_toArray]; rfl) (fun K hK => ?_) AllReadyH.nil)
          go_simp
          refine (l1Below_any B p 4 _ T.2.2.1).mono ?_; rintro e v3 ⟨x1, rfl, x1l, x1h, _, _, cc, bb⟩; clear n0 n1 n2 n3 n4 n5 n6 y0 y1 y2 y3 y4 y5 y6 z0 z1 z2 z3 z4 z5 z6 z7 z8; (replace T := T.but cc bb hp hbt); (replace X := X.but bb h6p); (replace Y := Y.but bb h7p); clear cc bb; (obtain ⟨n0, n1, n2, n3, n4, n5, n6⟩ := id T.1); (obtain ⟨y0, y1, y2, y3, y4, y5, y6⟩ := id X); (obtain ⟨⟨z0, z1, z2, z3, z4⟩, z5, z6, z7, z8⟩ := id Y)
          (try go_wp2_with fail)
          refine hK.out _ _ ?_ (fun hHeld => ?_)
          ·first | exact ⟨n1, n2, n3⟩ | (simp (maxDischargeDepth := 6) [go_sem, *]; done)
          clear hK K
          (try simp only [Act.put, List.setIfInBounds_toArray, List.set_cons_zero, List.set_cons_succ])
          refine wpAnyH_ready (rs := [4]) (by kernel_rfl) (by simp) ?_
          refine (AllReadyH.cons (by rw [List.getElem?_toArray]; rfl) (fun K hK => ?_) AllReadyH.nil)
          go_simp
          refine (l1Below_any B p 60 _ T.2.2.1).mono ?_; rintro e v4 ⟨x2, rfl, x2l, x2h, _, _, cc, bb⟩; clear n0 n1 n2 n3 n4 n5 n6 y0 y1 y2 y3 y4 y5 y6 z0 z1 z2 z3 z4 z5 z6 z7 z8; (replace T := T.but cc bb hp hbt); (replace X := X.but bb h6p); (replace Y := Y.but bb h7p); clear cc bb; (obtain ⟨n0, n1, n2, n3, n4, n5, n6⟩ := id T.1); (obtain ⟨y0, y1, y2, y3, y4, y5, y6⟩ := id X); (obtain ⟨⟨z0, z1, z2, z3, z4⟩, z5, z6, z7, z8⟩ := id Y)
          (try go_wp2_with fail)
          refine hK.out _ _ ?_ (fun hHeld => ?_)
          ·first | exact ⟨n1, n2, n3⟩ | (simp (maxDischargeDepth := 6) [go_sem, *]; done)
          clear hK K
          (try simp only [Act.put, List.setIfInBounds_toArray, List.set_cons_zero, List.set_cons_succ])
          refine wpAnyH_ready (rs := [6]) (by kernel_rfl) (by simp) ?_
          refine (AllReadyH.cons (by rw [List.getElem?_toArray]; rfl) (fun K hK => ?_) AllReadyH.nil)
          go_simp
          refine (l1Below_any B p 4 _ T.2.2.1).mono ?_; rintro e v5 ⟨x3, rfl, x3l, x3h, _, _, cc, bb⟩; clear n0 n1 n2 n3 n4 n5 n6 y0 y1 y2 y3 y4 y5 y6 z0 z1 z2 z3 z4 z5 z6 z7 z8; (replace T := T.but cc bb hp hbt); (replace X := X.but bb h6p); (replace Y := Y.but bb h7p); clear cc bb; (obtain ⟨n0, n1, n2, n3, n4, n5, n6⟩ := id T.1); (obtain ⟨y0, y1, y2, y3, y4, y5, y6⟩ := id X); (obtain ⟨⟨z0, z1, z2, z3, z4⟩, z5, z6, z7, z8⟩ := id Y)
          (try go_wp2_with fail)
          refine hK.out _ _ ?_ (fun hHeld => ?_)
          ·first | exact ⟨n1, n2, n3⟩ | (simp (maxDischargeDepth := 6) [go_sem, *]; done)
          clear hK K
          (try simp only [Act.put, List.setIfInBounds_toArray, List.set_cons_zero, List.set_cons_succ])
          refine wpAnyH_take (i := 7) (v := ?_) (by rw [List.getElem?_toArray]; rfl) (by kernel_rfl) (by kernel_rfl) (by kernel_rfl) (by intro _ _ _ h; exact h) (Or.inl ⟨by rfl, ?_⟩) (by assumption) ?_
          rotate_left
          ·(intro w hSw; (try dsimp only at hSw); go_simp; all_goals with_reducible rfl)
          (try simp only [Act.put, List.setIfInBounds_toArray, List.set_cons_zero, List.set_cons_succ])
          refine wpAnyH_ready (rs := [8]) (by kernel_rfl) (by simp) ?_
          refine (AllReadyH.cons (by rw [List.getElem?_toArray]; rfl) (fun K hK => ?_) AllReadyH.nil)
          go_simp
          refine (l7Put_opt ep us _ _ _ nn A n c M _ (by omega) (FromsO.own T.2.1) hep hus HNN.out).mono ?_; rintro e v6 ⟨a', c', rfl, O, bb⟩; clear n0 n1 n2 n3 n4 n5 n6 y0 y1 y2 y3 y4 y5 y6 z0 z1 z2 z3 z4 z5 z6 z7 z8; (have hsz : w.heap.size + 1 ≤ v5.heap.size := Nat.le_of_lt (Nat.lt_of_le_of_lt hbt T.1.1)); (replace T := T.below bb); (have G6 : ∀ g, (Value.slice a' (n + 1) c').ownBlock = some g → g ≠ j6 := fun g hg => by have := (World.ownsRow.lt O g hg).1; have := X.1; omega); (replace X := X.below bb); (have G7 : ∀ g, (Value.slice a' (n + 1) c').ownBlock = some g → g ≠ j7 := fun g hg => by have := (World.ownsRow.lt O g hg).1; have := Y.1.1; omega); (replace Y := Y.below bb); (replace O := ownK_le O hsz); clear bb hsz; (obtain ⟨n0, n1, n2, n3, n4, n5, n6⟩ := id T.1); (obtain ⟨y0, y1, y2, y3, y4, y5, y6⟩ := id X); (obtain ⟨⟨z0, z1, z2, z3, z4⟩, z5, z6, z7, z8⟩ := id Y)
          (try go_wp2_with fail)
          refine hK.out _ _ ?_ (fun hHeld => ?_)
          ·first | exact ⟨n1, n2, n3⟩ | (simp (maxDischargeDepth := 6) [go_sem, *]; done)
          clear hK K
          (try simp only [Act.put, List.setIfInBounds_toArray, List.set_cons_zero, List.set_cons_succ])
          refine wpAnyH_take (i := 9) (v := ?_) (by rw [List.getElem?_toArray]; rfl) (by kernel_rfl) (by kernel_rfl) (by kernel_rfl) (by intro _ _ _ h; exact h) (Or.inl ⟨by rfl, ?_⟩) (by assumption) ?_
          rotate_left
          ·(intro w hSw; (try dsimp only at hSw); go_simp; all_goals with_reducible rfl)
          (try simp only [Act.put, List.setIfInBounds_toArray, List.set_cons_zero, List.set_cons_succ])
          refine wpAnyH_take (i := 10) (v := ?_) (by rw [List.getElem?_toArray]; rfl) (by kernel_rfl) (by kernel_rfl) (by kernel_rfl) (by intro _ _ _ h; exact h) (Or.inl ⟨by rfl, ?_⟩) (by assumption) ?_
          rotate_left
          ·(intro w hSw; (try dsimp only at hSw); go_simp; all_goals with_reducible rfl)
          (try simp only [Act.put, List.setIfInBounds_toArray, List.set_cons_zero, List.set_cons_succ])
          refine wpAnyH_take (i := 11) (v := ?_) (by rw [List.getElem?_toArray]; rfl) (by kernel_rfl) (by kernel_rfl) (by kernel_rfl) (by intro _ _ _ h; exact h) (Or.inl ⟨by rfl, ?_⟩) (by assumption) ?_
          rotate_left
          ·(intro w hSw; (try dsimp only at hSw); go_simp; all_goals with_reducible rfl)
          (try simp only [Act.put, List.setIfInBounds_toArray, List.set_cons_zero, List.set_cons_succ])
          refine wpAnyH_ready (rs := [14]) (by kernel_rfl) (by simp) ?_
          refine (AllReadyH.cons (by rw [List.getElem?_toArray]; rfl) (fun K hK => ?_) AllReadyH.nil)
          go_simp
          clear n0 n1 n2 n3 n4 n5 n6 y0 y1 y2 y3 y4 y5 y6 z0 z1 z2 z3 z4 z5 z6 z7 z8; (have bb : But j6 v6 (((v6.setCell ⟨j6, 0, none⟩ (.int .i64 ep)).setCell ⟨j6, 1, none⟩ (.int .i64 (us + 1))).setCell ⟨j6, 2, none⟩ (.slice a' (n + 1) c')) := put3_but _ _ _ _ _); (have cc : CurOk (((v6.setCell ⟨j6, 0, none⟩ (.int .i64 ep)).setCell ⟨j6, 1, none⟩ (.int .i64 (us + 1))).setCell ⟨j6, 2, none⟩ (.slice a' (n + 1) c')) B p := CurOk.put3 T.2.2.1 h6p (by omega) _ _ _); (replace T := T.other bb cc h6t hbt H6); (replace X : Bx3 (((v6.setCell ⟨j6, 0, none⟩ (.int .i64 ep)).setCell ⟨j6, 1, none⟩ (.int .i64 (us + 1))).setCell ⟨j6, 2, none⟩ (.slice a' (n + 1) c')) j6 (.int .i64 ep) (.int .i64 (us + 1)) (.slice a' (n + 1) c') := X.set _ _ _); (replace Y := Y.but bb (by omega)); (replace O := own_neK O bb G6); clear bb cc; generalize (((v6.setCell ⟨j6, 0, none⟩ (.int .i64 ep)).setCell ⟨j6, 1, none⟩ (.int .i64 (us + 1))).setCell ⟨j6, 2, none⟩ (.slice a' (n + 1) c')) = v7 at *; (obtain ⟨n0, n1, n2, n3, n4, n5, n6⟩ := id T.1); (obtain ⟨y0, y1, y2, y3, y4, y5, y6⟩ := id X); (obtain ⟨⟨z0, z1, z2, z3, z4⟩, z5, z6, z7, z8⟩ := id Y)
          refine hK.out _ _ ?_ (fun hHeld => ?_)
          ·first | exact ⟨n1, n2, n3⟩ | (simp (maxDischargeDepth := 6) [go_sem, *]; done)
          clear hK K
          (try simp only [Act.put, List.setIfInBounds_toArray, List.set_cons_zero, List.set_cons_succ])
          refine wpAnyH_ready (rs := [15]) (by kernel_rfl) (by simp) ?_
          refine (AllReadyH.cons (by rw [List.getElem?_toArray]; rfl) (fun K hK => ?_) AllReadyH.nil)
          go_simp
          clear n0 n1 n2 n3 n4 n5 n6 y0 y1 y2 y3 y4 y5 y6 z0 z1 z2 z3 z4 z5 z6 z7 z8; (have bb : But j7 v7 ((((v7.setCell ⟨j7, 0, none⟩ (.int .i64 nn)).setCell ⟨j7, 1, none⟩ (.int .i64 x1)).setCell ⟨j7, 2, none⟩ (.int .i64 x2)).setCell ⟨j7, 3, none⟩ (.int .i64 (IntKind.i64.wrap (1 + x3)))) := put4_but _ _ _ _ _ _); (have cc : CurOk ((((v7.setCell ⟨j7, 0, none⟩ (.int .i64 nn)).setCell ⟨j7, 1, none⟩ (.int .i64 x1)).setCell ⟨j7, 2, none⟩ (.int .i64 x2)).setCell ⟨j7, 3, none⟩ (.int .i64 (IntKind.i64.wrap (1 + x3)))) B p := CurOk.put4 T.2.2.1 h7p (by omega) _ _ _ _); (replace T := T.other bb cc h7t hbt H7); (replace X := X.but bb (by omega)); (replace O := own_neK O bb G7); clear bb cc Y; generalize ((((v7.setCell ⟨j7, 0, none⟩ (.int .i64 nn)).setCell ⟨j7, 1, none⟩ (.int .i64 x1)).setCell ⟨j7, 2, none⟩ (.int .i64 x2)).setCell ⟨j7, 3, none⟩ (.int .i64 (IntKind.i64.wrap (1 + x3)))) = v8 at *; (obtain ⟨n0, n1, n2, n3, n4, n5, n6⟩ := id T.1); (obtain ⟨y0, y1, y2, y3, y4, y5, y6⟩ := id X)
          refine hK.out _ _ ?_ (fun hHeld => ?_)
          ·first | exact ⟨n1, n2, n3⟩ | (simp (maxDischargeDepth := 6) [go_sem, *]; done)
          clear hK K
          (try simp only [Act.put, List.setIfInBounds_toArray, List.set_cons_zero, List.set_cons_succ])
          refine wpAnyH_done (by kernel_rfl) ?_ _
          (try go_wp2_with fail)
          go_meet
          case rel => exact ⟨j6, a', c', x1, x2, _, rfl, by omega, ⟨x1l, x1h⟩, X, O, T⟩
        ·go_simp
         clear n0 n1 n2 n3 n4 n5 n6; (have bb := Below.nw v (.cells #[.int .i64 0, .int .i64 0, .int .i64 0, .int .i64 0] 43)); (have Y := Bf4.new v 0 0 0 0 43); (have h7t : bt < v.heap.size := T.1.1); (have h7p : v.heap.size ≠ p := by omega); (have H7 : ∀ g, (Value.slice A n c).ownBlock = some g → g ≠ v.heap.size := fun g hg => by have := (World.ownsRow.lt T.2.1 g hg).2; omega); (replace T := T.below bb); clear bb; generalize v.heap.size = j7 at *; generalize v.alloc (.cells #[.int .i64 0, .int .i64 0, .int .i64 0, .int .i64 0] 43) = v1 at *; (obtain ⟨n0, n1, n2, n3, n4, n5, n6⟩ := id T.1); (obtain ⟨⟨z0, z1, z2, z3, z4⟩, z5, z6, z7, z8⟩ := id Y)
         refine hK.out _ _ ?_ (fun hHeld => ?_)
         ·first | exact ⟨n1, n2, n3⟩ | (simp (maxDischargeDepth := 6) [go_sem, *]; done)
         clear hK K
         (try simp only [Act.put, List.setIfInBounds_toArray, List.set_cons_zero, List.set_cons_succ])
         refine wpAnyH_ready (rs := [2, 12]) (by kernel_rfl) (by simp) ?_
         refine (AllReadyH.cons (by rw [List.getElem?_toArray]; rfl) (fun K hK => ?_) (AllReadyH.cons (by rw [List.getElem?_toArray]; rfl) (fun K hK => ?_) AllReadyH.nil))
         ·go_simp
          refine (l1Below_any B p 4 _ T.2.2.1).mono ?_; rintro e v2 ⟨x1, rfl, x1l, x1h, _, _, cc, bb⟩; clear n0 n1 n2 n3 n4 n5 n6 z0 z1 z2 z3 z4 z5 z6 z7 z8; (replace T := T.but cc bb hp hbt); (replace Y := Y.but bb h7p); clear cc bb; (obtain ⟨n0, n1, n2, n3, n4, n5, n6⟩ := id T.1); (obtain ⟨⟨z0, z1, z2, z3, z4⟩, z5, z6, z7, z8⟩ := id Y)
          (try go_wp2_with fail)
          refine hK.out _ _ ?_ (fun hHeld => ?_)
          ·first | exact ⟨n1, n2, n3⟩ | (simp (maxDischargeDepth := 6) [go_sem, *]; done)
          clear hK K
          (try simp only [Act.put, List.setIfInBounds_toArray, List.set_cons_zero, List.set_cons_succ])
          refine wpAnyH_ready (rs := [4, 12]) (by kernel_rfl) (by simp) ?_
          refine (AllReadyH.cons (by rw [List.getElem?_toArray]; rfl) (fun K hK => ?_) (AllReadyH.cons (by rw [List.getElem?_toArray]; rfl) (fun K hK => ?_) AllReadyH.nil))
          ·go_simp
           refine (l1Below_any B p 60 _ T.2.2.1).mono ?_; rintro e v3 ⟨x2, rfl, x2l, x2h, _, _, cc, bb⟩; clear n0 n1 n2 n3 n4 n5 n6 z0 z1 z2 z3 z4 z5 z6 z7 z8; (replace T := T.but cc bb hp hbt); (replace Y := Y.but bb h7p); clear cc bb; (obtain ⟨n0, n1, n2, n3, n4, n5, n6⟩ := id T.1); (obtain ⟨⟨z0, z1, z2, z3, z4⟩, z5, z6, z7, z8⟩ := id Y)
           (try go_wp2_with fail)
           refine hK.out _ _ ?_ (fun hHeld => ?_)
           ·first | exact ⟨n1, n2, n3⟩ | (simp (maxDischargeDepth := 6) [go_sem, *]; done)
           clear hK K
           (try simp only [Act.put, List.setIfInBounds_toArray, List.set_cons_zero, List.set_cons_succ])
           refine wpAnyH_ready (rs := [6, 12]) (by kernel_rfl) (by simp) ?_
           refine (AllReadyH.cons (by rw [List.getElem?_toArray]; rfl) (fun K hK => ?_) (AllReadyH.cons (by rw [List.getElem?_toArray]; rfl) (fun K hK => ?_) AllReadyH.nil))
           ·go_simp
            refine (l1Below_any B p 4 _ T.2.2.1).mono ?_; rintro e v4 ⟨x3, rfl, x3l, x3h, _, _, cc, bb⟩; clear n0 n1 n2 n3 n4 n5 n6 z0 z1 z2 z3 z4 z5 z6 z7 z8; (replace T := T.but cc bb hp hbt); (replace Y := Y.but bb h7p); clear cc bb; (obtain ⟨n0, n1, n2, n3, n4, n5, n6⟩ := id T.1); (obtain ⟨⟨z0, z1, z2, z3, z4⟩, z5, z6, z7, z8⟩ := id Y)
            (try go_wp2_with fail)
            refine hK.out _ _ ?_ (fun hHeld => ?_)
            ·first | exact ⟨n1, n2, n3⟩ | (simp (maxDischargeDepth := 6) [go_sem, *]; done)
            clear hK K
            (try simp only [Act.put, List.setIfInBounds_toArray, List.set_cons_zero, List.set_cons_succ])
            refine wpAnyH_take (i := 7) (v := ?_) (by rw [List.getElem?_toArray]; rfl) (by kernel_rfl) (by kernel_rfl) (by kernel_rfl) (by intro _ _ _ h; exact h) (Or.inl ⟨by rfl, ?_⟩) (by assumption) ?_
            rotate_left
            ·(intro w hSw; (try dsimp only at hSw); go_simp; all_goals with_reducible rfl)
            (try simp only [Act.put, List.setIfInBounds_toArray, List.set_cons_zero, List.set_cons_succ])
            refine wpAnyH_ready (rs := [8, 12]) (by kernel_rfl) (by simp) ?_
            refine (AllReadyH.cons (by rw [List.getElem?_toArray]; rfl) (fun K hK => ?_) (AllReadyH.cons (by rw [List.getElem?_toArray]; rfl) (fun K hK => ?_) AllReadyH.nil))
            ·go_simp
             refine (l7Put_opt ep us _ _ _ nn A n c M _ (by omega) (FromsO.own T.2.1) hep hus HNN.out).mono ?_; rintro e v5 ⟨a', c', rfl, O, bb⟩; clear n0 n1 n2 n3 n4 n5 n6 z0 z1 z2 z3 z4 z5 z6 z7 z8; (have hsz : w.heap.size + 1 ≤ v4.heap.size := Nat.le_of_lt (Nat.lt_of_le_of_lt hbt T.1.1)); (replace T := T.below bb); (have G7 : ∀ g, (Value.slice a' (n + 1) c').ownBlock = some g → g ≠ j7 := fun g hg => by have := (World.ownsRow.lt O g hg).1; have := Y.1.1; omega); (replace Y := Y.below bb); (replace O := ownK_le O hsz); clear bb hsz; (obtain ⟨n0, n1, n2, n3, n4, n5, n6⟩ := id T.1); (obtain ⟨⟨z0, z1, z2, z3, z4⟩, z5, z6, z7, z8⟩ := id Y)
             (try go_wp2_with fail)
             refine hK.out _ _ ?_ (fun hHeld => ?_)
             ·first | exact ⟨n1, n2, n3⟩ | (simp (maxDischargeDepth := 6) [go_sem, *]; done)
             clear hK K
             (try simp only [Act.put, List.setIfInBounds_toArray, List.set_cons_zero, List.set_cons_succ])
             refine wpAnyH_take (i := 9) (v := ?_) (by rw [List.getElem?_toArray]; rfl) (by kernel_rfl) (by kernel_rfl) (by kernel_rfl) (by intro _ _ _ h; exact h) (Or.inl ⟨by rfl, ?_⟩) (by assumption) ?_
             rotate_left
             ·(intro w hSw; (try dsimp only at hSw); go_simp; all_goals with_reducible rfl)
             (try simp only [Act.put, List.setIfInBounds_toArray, List.set_cons_zero, List.set_cons_succ])
             refine wpAnyH_take (i := 10) (v := ?_) (by rw [List.getElem?_toArray]; rfl) (by kernel_rfl) (by kernel_rfl) (by kernel_rfl) (by intro _ _ _ h; exact h) (Or.inl ⟨by rfl, ?_⟩) (by assumption) ?_
             rotate_left
             ·(intro w hSw; (try dsimp only at hSw); go_simp; all_goals with_reducible rfl)
             (try simp only [Act.put, List.setIfInBounds_toArray, List.set_cons_zero, List.set_cons_succ])
             refine wpAnyH_take (i := 11) (v := ?_) (by rw [List.getElem?_toArray]; rfl) (by kernel_rfl) (by kernel_rfl) (by kernel_rfl) (by intro _ _ _ h; exact h) (Or.inl ⟨by rfl, ?_⟩) (by assumption) ?_
             rotate_left
             ·(intro w hSw; (try dsimp only at hSw); go_simp; all_goals with_reducible rfl)
             (try simp only [Act.put, List.setIfInBounds_toArray, List.set_cons_zero, List.set_cons_succ])
             refine wpAnyH_ready (rs := [12]) (by kernel_rfl) (by simp) ?_
             refine (AllReadyH.cons (by rw [List.getElem?_toArray]; rfl) (fun K hK => ?_) AllReadyH.nil)
             go_simp
             clear n0 n1 n2 n3 n4 n5 n6 z0 z1 z2 z3 z4 z5 z6 z7 z8; (have bb := Below.nw v5 (.cells #[.int .i64 0, .int .i64 0, .slice none 0 0] 39)); (have X := Bx3.new v5 (.int .i64 0) (.int .i64 0) (.slice none 0 0) 39); (have h6t : bt < v5.heap.size := T.1.1); (have h6p : v5.heap.size ≠ p := by omega); (have H6 : ∀ g, (Value.slice A n c).ownBlock = some g → g ≠ v5.heap.size := fun g hg => by have := (World.ownsRow.lt T.2.1 g hg).2; omega); (have h67 : j7 < v5.heap.size := Y.1.1); (replace Y := Y.below bb); (have G6 : ∀ g, (Value.slice a' (n + 1) c').ownBlock = some g → g ≠ v5.heap.size := fun g hg => by have := (World.ownsRow.lt O g hg).2; omega); (replace O := own_belK' O bb); (replace T := T.below bb); clear bb; generalize v5.heap.size = j6 at *; generalize v5.alloc (.cells #[.int .i64 0, .int .i64 0, .slice none 0 0] 39) = v6 at *; (obtain ⟨n0, n1, n2, n3, n4, n5, n6⟩ := id T.1); (obtain ⟨y0, y1, y2, y3, y4, y5, y6⟩ := id X); (obtain ⟨⟨z0, z1, z2, z3, z4⟩, z5, z6, z7, z8⟩ := id Y)
             refine hK.out _ _ ?_ (fun hHeld => ?_)
             ·first | exact ⟨n1, n2, n3⟩ | (simp (maxDischargeDepth := 6) [go_sem, *]; done)
             clear hK K
             (try simp only [Act.put, List.setIfInBounds_toArray, List.set_cons_zero, List.set_cons_succ])
             refine wpAnyH_ready (rs := [14]) (by kernel_rfl) (by simp) ?_
             refine (AllReadyH.cons (by rw [List.getElem?_toArray]; rfl) (fun K hK => ?_) AllReadyH.nil)
             go_simp
             clear n0 n1 n2 n3 n4 n5 n6 y0 y1 y2 y3 y4 y5 y6 z0 z1 z2 z3 z4 z5 z6 z7 z8; (have bb : But j6 v6 (((v6.setCell ⟨j6, 0, none⟩ (.int .i64 ep)).setCell ⟨j6, 1, none⟩ (.int .i64 (us + 1))).setCell ⟨j6, 2, none⟩ (.slice a' (n + 1) c')) := put3_but _ _ _ _ _); (have cc : CurOk (((v6.setCell ⟨j6, 0, none⟩ (.int .i64 ep)).setCell ⟨j6, 1, none⟩ (.int .i64 (us + 1))).setCell ⟨j6, 2, none⟩ (.slice a' (n + 1) c')) B p := CurOk.put3 T.2.2.1 h6p (by omega) _ _ _); (replace T := T.other bb cc h6t hbt H6); (replace X : Bx3 (((v6.setCell ⟨j6, 0, none⟩ (.int .i64 ep)).setCell ⟨j6, 1, none⟩ (.int .i64 (us + 1))).setCell ⟨j6, 2, none⟩ (.slice a' (n + 1) c')) j6 (.int .i64 ep) (.int .i64 (us + 1)) (.slice a' (n + 1) c') := X.set _ _ _); (replace Y := Y.but bb (by omega)); (replace O := own_neK O bb G6); clear bb cc; generalize (((v6.setCell ⟨j6, 0, none⟩ (.int .i64 ep)).setCell ⟨j6, 1, none⟩ (.int .i64 (us + 1))).setCell ⟨j6, 2, none⟩ (.slice a' (n + 1) c')) = v7 at *; (obtain ⟨n0, n1, n2, n3, n4, n5, n6⟩ := id T.1); (obtain ⟨y0, y1, y2, y3, y4, y5, y6⟩ := id X); (obtain ⟨⟨z0, z1, z2, z3, z4⟩, z5, z6, z7, z8⟩ := id Y)
             refine hK.out _ _ ?_ (fun hHeld => ?_)
             ·first | exact ⟨n1, n2, n3⟩ | (simp (maxDischargeDepth := 6) [go_sem, *]; done)
             clear hK K
             (try simp only [Act.put, List.setIfInBounds_toArray, List.set_cons_zero, List.set_cons_succ])
             refine wpAnyH_ready (rs := [15]) (by kernel_rfl) (by simp) ?_
             refine (AllReadyH.cons (by rw [List.getElem?_toArray]; rfl) (fun K hK => ?_) AllReadyH.nil)
             go_simp
             clear n0 n1 n2 n3 n4 n5 n6 y0 y1 y2 y3 y4 y5 y6 z0 z1 z2 z3 z4 z5 z6 z7 z8; (have bb : But j7 v7 ((((v7.setCell ⟨j7, 0, none⟩ (.int .i64 nn)).setCell ⟨j7, 1, none⟩ (.int .i64 x1)).setCell ⟨j7, 2, none⟩ (.int .i64 x2)).setCell ⟨j7, 3, none⟩ (.int .i64 (IntKind.i64.wrap (1 + x3)))) := put4_but _ _ _ _ _ _); (have cc : CurOk ((((v7.setCell ⟨j7, 0, none⟩ (.int .i64 nn)).setCell ⟨j7, 1, none⟩ (.int .i64 x1)).setCell ⟨j7, 2, none⟩ (.int .i64 x2)).setCell ⟨j7, 3, none⟩ (.int .i64 (IntKind.i64.wrap (1 + x3)))) B p := CurOk.put4 T.2.2.1 h7p (by omega) _ _ _ _); (replace T := T.other bb cc h7t hbt H7); (replace X := X.but bb (by omega)); (replace O := own_neK O bb G7); clear bb cc Y; generalize ((((v7.setCell ⟨j7, 0, none⟩ (.int .i64 nn)).setCell ⟨j7, 1, none⟩ (.int .i64 x1)).setCell ⟨j7, 2, none⟩ (.int .i64 x2)).setCell ⟨j7, 3, none⟩ (.int .i64 (IntKind.i64.wrap (1 + x3)))) = v8 at *; (obtain ⟨n0, n1, n2, n3, n4, n5, n6⟩ := id T.1); (obtain ⟨y0, y1, y2, y3, y4, y5, y6⟩ := id X)
             refine hK.out _ _ ?_ (fun hHeld => ?_)
             ·first | exact ⟨n1, n2, n3⟩ | (simp (maxDischargeDepth := 6) [go_sem, *]; done)
             clear hK K
             (try simp only [Act.put, List.setIfInBounds_toArray, List.set_cons_zero, List.set_cons_succ])
             refine wpAnyH_done (by kernel_rfl) ?_ _
             (try go_wp2_with fail)
             go_meet
             case rel => exact ⟨j6, a', c', x1, x2, _, rfl, by omega, ⟨x1l, x1h⟩, X, O, T⟩
            ·go_simp
             clear n0 n1 n2 n3 n4 n5 n6 z0 z1 z2 z3 z4 z5 z6 z7 z8; (have bb := Below.nw v4 (.cells #[.int .i64 0, .int .i64 0, .slice none 0 0] 39)); (have X := Bx3.new v4 (.int .i64 0) (.int .i64 0) (.slice none 0 0) 39); (have h6t : bt < v4.heap.size := T.1.1); (have h6p : v4.heap.size ≠ p := by omega); (have H6 : ∀ g, (Value.slice A n c).ownBlock = some g → g ≠ v4.heap.size := fun g hg => by have := (World.ownsRow.lt T.2.1 g hg).2; omega); (have h67 : j7 < v4.heap.size := Y.1.1); (replace Y := Y.below bb); (replace T := T.below bb); clear bb; generalize v4.heap.size = j6 at *; generalize v4.alloc (.cells #[.int .i64 0, .int .i64 0, .slice none 0 0] 39) = v5 at *; (obtain ⟨n0, n1, n2, n3, n4, n5, n6⟩ := id T.1); (obtain ⟨y0, y1, y2, y3, y4, y5, y6⟩ := id X); (obtain ⟨⟨z0, z1, z2, z3, z4⟩, z5, z6, z7, z8⟩ := id Y)
             refine hK.out _ _ ?_ (fun hHeld => ?_)
             ·first | exact ⟨n1, n2, n3⟩ | (simp (maxDischargeDepth := 6) [go_sem, *]; done)
             clear hK K
             (try simp only [Act.put, List.setIfInBounds_toArray, List.set_cons_zero, List.set_cons_succ])
             refine wpAnyH_ready (rs := [8]) (by kernel_rfl) (by simp) ?_
             refine (AllReadyH.cons (by rw [List.getElem?_toArray]; rfl) (fun K hK => ?_) AllReadyH.nil)
             go_simp
             refine (l7Put_opt ep us _ _ _ nn A n c M _ (by omega) (FromsO.own T.2.1) hep hus HNN.out).mono ?_; rintro e v6 ⟨a', c', rfl, O, bb⟩; clear n0 n1 n2 n3 n4 n5 n6 y0 y1 y2 y3 y4 y5 y6 z0 z1 z2 z3 z4 z5 z6 z7 z8; (have hsz : w.heap.size + 1 ≤ v5.heap.size := Nat.le_of_lt (Nat.lt_of_le_of_lt hbt T.1.1)); (replace T := T.below bb); (have G6 : ∀ g, (Value.slice a' (n + 1) c').ownBlock = some g → g ≠ j6 := fun g hg => by have := (World.ownsRow.lt O g hg).1; have := X.1; omega); (replace X := X.below bb); (have G7 : ∀ g, (Value.slice a' (n + 1) c').ownBlock = some g → g ≠ j7 := fun g hg => by have := (World.ownsRow.lt O g hg).1; have := Y.1.1; omega); (replace Y := Y.below bb); (replace O := ownK_le O hsz); clear bb hsz; (obtain ⟨n0, n1, n2, n3, n4, n5, n6⟩ := id T.1); (obtain ⟨y0, y1, y2, y3, y4, y5, y6⟩ := id X); (obtain ⟨⟨z0, z1, z2, z3, z4⟩, z5, z6, z7, z8⟩ := id Y)
             (try go_wp2_with fail)
             refine hK.out _ _ ?_ (fun hHeld => ?_)
             ·first | exact ⟨n1, n2, n3⟩ | (simp (maxDischargeDepth := 6) [go_sem, *]; done)
             clear hK K
             (try simp only [Act.put, List.setIfInBounds_toArray, List.set_cons_zero, List.set_cons_succ])
             refine wpAnyH_take (i := 9) (v := ?_) (by rw [List.getElem?_toArray]; rfl) (by kernel_rfl) (by kernel_rfl) (by kernel_rfl) (by intro _ _ _ h; exact h) (Or.inl ⟨by rfl, ?_⟩) (by assumption) ?_
             rotate_left
             ·(intro w hSw; (try dsimp only at hSw); go_simp; all_goals with_reducible rfl)
             (try simp only [Act.put, List.setIfInBounds_toArray, List.set_cons_zero, List.set_cons_succ])
             refine wpAnyH_take (i := 10) (v := ?_) (by rw [List.getElem?_toArray]; rfl) (by kernel_rfl) (by kernel_rfl) (by kernel_rfl) (by intro _ _ _ h; exact h) (Or.inl ⟨by rfl, ?_⟩) (by assumption) ?_
             rotate_left
             ·(intro w hSw; (try dsimp only at hSw); go_simp; all_goals with_reducible rfl)
             (try simp only [Act.put, List.setIfInBounds_toArray, List.set_cons_zero, List.set_cons_succ])
             refine wpAnyH_take (i := 11) (v := ?_) (by rw [List.getElem?_toArray]; rfl) (by kernel_rfl) (by kernel_rfl) (by kernel_rfl) (by intro _ _ _ h; exact h) (Or.inl ⟨by rfl, ?_⟩) (by assumption) ?_
             rotate_left
             ·(intro w hSw; (try dsimp only at hSw); go_simp; all_goals with_reducible rfl)
             (try simp only [Act.put, List.setIfInBounds_toArray, List.set_cons_zero, List.set_cons_succ])
             refine wpAnyH_ready (rs := [14]) (by kernel_rfl) (by simp) ?_
             refine (AllReadyH.cons (by rw [List.getElem?_toArray]; rfl) (fun K hK => ?_) AllReadyH.nil)
             go_simp
             clear n0 n1 n2 n3 n4 n5 n6 y0 y1 y2 y3 y4 y5 y6 z0 z1 z2 z3 z4 z5 z6 z7 z8; (have bb : But j6 v6 (((v6.setCell ⟨j6, 0, none⟩ (.int .i64 ep)).setCell ⟨j6, 1, none⟩ (.int .i64 (us + 1))).setCell ⟨j6, 2, none⟩ (.slice a' (n + 1) c')) := put3_but _ _ _ _ _); (have cc : CurOk (((v6.setCell ⟨j6, 0, none⟩ (.int .i64 ep)).setCell ⟨j6, 1, none⟩ (.int .i64 (us + 1))).setCell ⟨j6, 2, none⟩ (.slice a' (n + 1) c')) B p := CurOk.put3 T.2.2.1 h6p (by omega) _ _ _); (replace T := T.other bb cc h6t hbt H6); (replace X : Bx3 (((v6.setCell ⟨j6, 0, none⟩ (.int .i64 ep)).setCell ⟨j6, 1, none⟩ (.int .i64 (us + 1))).setCell ⟨j6, 2, none⟩ (.slice a' (n + 1) c')) j6 (.int .i64 ep) (.int .i64 (us + 1)) (.slice a' (n + 1) c') := X.set _ _ _); (replace Y := Y.but bb (by omega)); (replace O := own_neK O bb G6); clear bb cc; generalize (((v6.setCell ⟨j6, 0, none⟩ (.int .i64 ep)).setCell ⟨j6, 1, none⟩ (.int .i64 (us + 1))).setCell ⟨j6, 2, none⟩ (.slice a' (n + 1) c')) = v7 at *; (obtain ⟨n0, n1, n2, n3, n4, n5, n6⟩ := id T.1); (obtain ⟨y0, y1, y2, y3, y4, y5, y6⟩ := id X); (obtain ⟨⟨z0, z1, z2, z3, z4⟩, z5, z6, z7, z8⟩ := id Y)
             refine hK.out _ _ ?_ (fun hHeld => ?_)
             ·first | exact ⟨n1, n2, n3⟩ | (simp (maxDischargeDepth := 6) [go_sem, *]; done)
             clear hK K
             (try simp only [Act.put, List.setIfInBounds_toArray, List.set_cons_zero, List.set_cons_succ])
             refine wpAnyH_ready (rs := [15]) (by kernel_rfl) (by simp) ?_
             refine (AllReadyH.cons (by rw [List.getElem?_toArray]; rfl) (fun K hK => ?_) AllReadyH.nil)
             go_simp
             clear n0 n1 n2 n3 n4 n5 n6 y0 y1 y2 y3 y4 y5 y6 z0 z1 z2 z3 z4 z5 z6 z7 z8; (have bb : But j7 v7 ((((v7.setCell ⟨j7, 0, none⟩ (.int .i64 nn)).setCell ⟨j7, 1, none⟩ (.int .i64 x1)).setCell ⟨j7, 2, none⟩ (.int .i64 x2)).setCell ⟨j7, 3, none⟩ (.int .i64 (IntKind.i64.wrap (1 + x3)))) := put4_but _ _ _ _ _ _); (have cc : CurOk ((((v7.setCell ⟨j7, 0, none⟩ (.int .i64 nn)).setCell ⟨j7, 1, none⟩ (.int .i64 x1)).setCell ⟨j7, 2, none⟩ (.int .i64 x2)).setCell ⟨j7, 3, none⟩ (.int .i64 (IntKind.i64.wrap (1 + x3)))) B p := CurOk.put4 T.2.2.1 h7p (by omega) _ _ _ _); (replace T := T.other bb cc h7t hbt H7); (replace X := X.but bb (by omega)); (replace O := own_neK O bb G7); clear bb cc Y; generalize ((((v7.setCell ⟨j7, 0, none⟩ (.int .i64 nn)).setCell ⟨j7, 1, none⟩ (.int .i64 x1)).setCell ⟨j7, 2, none⟩ (.int .i64 x2)).setCell ⟨j7, 3, none⟩ (.int .i64 (IntKind.i64.wrap (1 + x3)))) = v8 at *; (obtain ⟨n0, n1, n2, n3, n4, n5, n6⟩ := id T.1); (obtain ⟨y0, y1, y2, y3, y4, y5, y6⟩ := id X)
             refine hK.out _ _ ?_ (fun hHeld => ?_)
             ·first | exact ⟨n1, n2, n3⟩ | (simp (maxDischargeDepth := 6) [go_sem, *]; done)
             clear hK K
             (try simp only [Act.put, List.setIfInBounds_toArray, List.set_cons_zero, List.set_cons_succ])
             refine wpAnyH_done (by kernel_rfl) ?_ _
             (try go_wp2_with fail)
             go_meet
             case rel => exact ⟨j6, a', c', x1, x2, _, rfl, by omega, ⟨x1l, x1h⟩, X, O, T⟩
           ·go_simp
            clear n0 n1 n2 n3 n4 n5 n6 z0 z1 z2 z3 z4 z5 z6 z7 z8; (have bb := Below.nw v3 (.cells #[.int .i64 0, .int .i64 0, .slice none 0 0] 39)); (have X := Bx3.new v3 (.int .i64 0) (.int .i64 0) (.slice none 0 0) 39); (have h6t : bt < v3.heap.size := T.1.1); (have h6p : v3.heap.size ≠ p := by omega); (have H6 : ∀ g, (Value.slice A n c).ownBlock = some g → g ≠ v3.heap.size := fun g hg => by have := (World.ownsRow.lt T.2.1 g hg).2; omega); (have h67 : j7 < v3.heap.size := Y.1.1); (replace Y := Y.below bb); (replace T := T.below bb); clear bb; generalize v3.heap.size = j6 at *; generalize v3.alloc (.cells #[.int .i64 0, .int .i64 0, .slice none 0 0] 39) = v4 at *; (obtain ⟨n0, n1, n2, n3, n4, n5, n6⟩ := id T.1); (obtain ⟨y0, y1, y2, y3, y4, y5, y6⟩ := id X); (obtain ⟨⟨z0, z1, z2, z3, z4⟩, z5, z6, z7, z8⟩ := id Y)
            refine hK.out _ _ ?_ (fun hHeld => ?_)
            ·first | exact ⟨n1, n2, n3⟩ | (simp (maxDischargeDepth := 6) [go_sem, *]; done)
            clear hK K
            (try simp only [Act.put, List.setIfInBounds_toArray, List.set_cons_zero, List.set_cons_succ])
            refine wpAnyH_ready (rs := [6]) (by kernel_rfl) (by simp) ?_
            refine (AllReadyH.cons (by rw [List.getElem?_toArray]; rfl) (fun K hK => ?_) AllReadyH.nil)
            go_simp
            refine (l1Below_any B p 4 _ T.2.2.1).mono ?_; rintro e v5 ⟨x3, rfl, x3l, x3h, _, _, cc, bb⟩; clear n0 n1 n2 n3 n4 n5 n6 y0 y1 y2 y3 y4 y5 y6 z0 z1 z2 z3 z4 z5 z6 z7 z8; (replace T := T.but cc bb hp hbt); (replace X := X.but bb h6p); (replace Y := Y.but bb h7p); clear cc bb; (obtain ⟨n0, n1, n2, n3, n4, n5, n6⟩ := id T.1); (obtain ⟨y0, y1, y2, y3, y4, y5, y6⟩ := id X); (obtain ⟨⟨z0, z1, z2, z3, z4⟩, z5, z6, z7, z8⟩ := id Y)
            (try go_wp2_with fail)
            refine hK.out _ _ ?_ (fun hHeld => ?_)
            ·first | exact ⟨n1, n2, n3⟩ | (simp (maxDischargeDepth := 6) [go_sem, *]; done)
            clear hK K
            (try simp only [Act.put, List.setIfInBounds_toArray, List.set_cons_zero, List.set_cons_succ])
            refine wpAnyH_take (i := 7) (v := ?_) (by rw [List.getElem?_toArray]; rfl) (by kernel_rfl) (by kernel_rfl) (by kernel_rfl) (by intro _ _ _ h; exact h) (Or.inl ⟨by rfl, ?_⟩) (by assumption) ?_
            rotate_left
            ·(intro w hSw; (try dsimp only at hSw); go_simp; all_goals with_reducible rfl)
            (try simp only [Act.put, List.setIfInBounds_toArray, List.set_cons_zero, List.set_cons_succ])
            refine wpAnyH_ready (rs := [8]) (by kernel_rfl) (by simp) ?_
            refine (AllReadyH.cons (by rw [List.getElem?_toArray]; rfl) (fun K hK => ?_) AllReadyH.nil)
            go_simp
            refine (l7Put_opt ep us _ _ _ nn A n c M _ (by omega) (FromsO.own T.2.1) hep hus HNN.out).mono ?_; rintro e v6 ⟨a', c', rfl, O, bb⟩; clear n0 n1 n2 n3 n4 n5 n6 y0 y1 y2 y3 y4 y5 y6 z0 z1 z2 z3 z4 z5 z6 z7 z8; (have hsz : w.heap.size + 1 ≤ v5.heap.size := Nat.le_of_lt (Nat.lt_of_le_of_lt hbt T.1.1)); (replace T := T.below bb); (have G6 : ∀ g, (Value.slice a' (n + 1) c').ownBlock = some g → g ≠ j6 := fun g hg => by have := (World.ownsRow.lt O g hg).1; have := X.1; omega); (replace X := X.below bb); (have G7 : ∀ g, (Value.slice a' (n + 1) c').ownBlock = some g → g ≠ j7 := fun g hg => by have := (World.ownsRow.lt O g hg).1; have := Y.1.1; omega); (replace Y := Y.below bb); (replace O := ownK_le O hsz); clear bb hsz; (obtain ⟨n0, n1, n2, n3, n4, n5, n6⟩ := id T.1); (obtain ⟨y0, y1, y2, y3, y4, y5, y6⟩ := id X); (obtain ⟨⟨z0, z1, z2, z3, z4⟩, z5, z6, z7, z8⟩ := id Y)
            (try go_wp2_with fail)
            refine hK.out _ _ ?_ (fun hHeld => ?_)
            ·first | exact ⟨n1, n2, n3⟩ | (simp (maxDischargeDepth := 6) [go_sem, *]; done)
            clear hK K
            (try simp only [Act.put, List.setIfInBounds_toArray, List.set_cons_zero, List.set_cons_succ])
            refine wpAnyH_take (i := 9) (v := ?_) (by rw [List.getElem?_toArray]; rfl) (by kernel_rfl) (by kernel_rfl) (by kernel_rfl) (by intro _ _ _ h; exact h) (Or.inl ⟨by rfl, ?_⟩) (by assumption) ?_
            rotate_left
            ·(intro w hSw; (try dsimp only at hSw); go_simp; all_goals with_reducible rfl)
            (try simp only [Act.put, List.setIfInBounds_toArray, List.set_cons_zero, List.set_cons_succ])
            refine wpAnyH_take (i := 10) (v := ?_) (by rw [List.getElem?_toArray]; rfl) (by kernel_rfl) (by kernel_rfl) (by kernel_rfl) (by intro _ _ _ h; exact h) (Or.inl ⟨by rfl, ?_⟩) (by assumption) ?_
            rotate_left
            ·(intro w hSw; (try dsimp only at hSw); go_simp; all_goals with_reducible rfl)
            (try simp only [Act.put, List.setIfInBounds_toArray, List.set_cons_zero, List.set_cons_succ])
            refine wpAnyH_take (i := 11) (v := ?_) (by rw [List.getElem?_toArray]; rfl) (by kernel_rfl) (by kernel_rfl) (by kernel_rfl) (by intro _ _ _ h; exact h) (Or.inl ⟨by rfl, ?_⟩) (by assumption) ?_
            rotate_left
            ·(intro w hSw; (try dsimp only at hSw); go_simp; all_goals with_reducible rfl)
            (try simp only [Act.put, List.setIfInBounds_toArray, List.set_cons_zero, List.set_cons_succ])
            refine wpAnyH_ready (rs := [14]) (by kernel_rfl) (by simp) ?_
            refine (AllReadyH.cons (by rw [List.getElem?_toArray]; rfl) (fun K hK => ?_) AllReadyH.nil)
            go_simp
            clear n0 n1 n2 n3 n4 n5 n6 y0 y1 y2 y3 y4 y5 y6 z0 z1 z2 z3 z4 z5 z6 z7 z8; (have bb : But j6 v6 (((v6.setCell ⟨j6, 0, none⟩ (.int .i64 ep)).setCell ⟨j6, 1, none⟩ (.int .i64 (us + 1))).setCell ⟨j6, 2, none⟩ (.slice a' (n + 1) c')) := put3_but _ _ _ _ _); (have cc : CurOk (((v6.setCell ⟨j6, 0, none⟩ (.int .i64 ep)).setCell ⟨j6, 1, none⟩ (.int .i64 (us + 1))).setCell ⟨j6, 2, none⟩ (.slice a' (n + 1) c')) B p := CurOk.put3 T.2.2.1 h6p (by omega) _ _ _); (replace T := T.other bb cc h6t hbt H6); (replace X : Bx3 (((v6.setCell ⟨j6, 0, none⟩ (.int .i64 ep)).setCell ⟨j6, 1, none⟩ (.int .i64 (us + 1))).setCell ⟨j6, 2, none⟩ (.slice a' (n + 1) c')) j6 (.int .i64 ep) (.int .i64 (us + 1)) (.slice a' (n + 1) c') := X.set _ _ _); (replace Y := Y.but bb (by omega)); (replace O := own_neK O bb G6); clear bb cc; generalize (((v6.setCell ⟨j6, 0, none⟩ (.int .i64 ep)).setCell ⟨j6, 1, none⟩ (.int .i64 (us + 1))).setCell ⟨j6, 2, none⟩ (.slice a' (n + 1) c')) = v7 at *; (obtain ⟨n0, n1, n2, n3, n4, n5, n6⟩ := id T.1); (obtain ⟨y0, y1, y2, y3, y4, y5, y6⟩ := id X); (obtain ⟨⟨z0, z1, z2, z3, z4⟩, z5, z6, z7, z8⟩ := id Y)
            refine hK.out _ _ ?_ (fun hHeld => ?_)
            ·first | exact ⟨n1, n2, n3⟩ | (simp (maxDischargeDepth := 6) [go_sem, *]; done)
            clear hK K
            (try simp only [Act.put, List.setIfInBounds_toArray, List.set_cons_zero, List.set_cons_succ])
            refine wpAnyH_ready (rs := [15]) (by kernel_rfl) (by simp) ?_
            refine (AllReadyH.cons (by rw [List.getElem?_toArray]; rfl) (fun K hK => ?_) AllReadyH.nil)
            go_simp
            clear n0 n1 n2 n3 n4 n5 n6 y0 y1 y2 y3 y4 y5 y6 z0 z1 z2 z3 z4 z5 z6 z7 z8; (have bb : But j7 v7 ((((v7.setCell ⟨j7, 0, none⟩ (.int .i64 nn)).setCell ⟨j7, 1, none⟩ (.int .i64 x1)).setCell ⟨j7, 2, none⟩ (.int .i64 x2)).setCell ⟨j7, 3, none⟩ (.int .i64 (IntKind.i64.wrap (1 + x3)))) := put4_but _ _ _ _ _ _); (have cc : CurOk ((((v7.setCell ⟨j7, 0, none⟩ (.int .i64 nn)).setCell ⟨j7, 1, none⟩ (.int .i64 x1)).setCell ⟨j7, 2, none⟩ (.int .i64 x2)).setCell ⟨j7, 3, none⟩ (.int .i64 (IntKind.i64.wrap (1 + x3)))) B p := CurOk.put4 T.2.2.1 h7p (by omega) _ _ _ _); (replace T := T.other bb cc h7t hbt H7); (replace X := X.but bb (by omega)); (replace O := own_neK O bb G7); clear bb cc Y; generalize ((((v7.setCell ⟨j7, 0, none⟩ (.int .i64 nn)).setCell ⟨j7, 1, none⟩ (.int .i64 x1)).setCell ⟨j7, 2, none⟩ (.int .i64 x2)).setCell ⟨j7, 3, none⟩ (.int .i64 (IntKind.i64.wrap (1 + x3)))) = v8 at *; (obtain ⟨n0, n1, n2, n3, n4, n5, n6⟩ := id T.1); (obtain ⟨y0, y1, y2, y3, y4, y5, y6⟩ := id X)
            refine hK.out _ _ ?_ (fun hHeld => ?_)
            ·first | exact ⟨n1, n2, n3⟩ | (simp (maxDischargeDepth := 6) [go_sem, *]; done)
            clear hK K
            (try simp only [Act.put, List.setIfInBounds_toArray, List.set_cons_zero, List.set_cons_succ])
            refine wpAnyH_done (by kernel_rfl) ?_ _
            (try go_wp2_with fail)
            go_meet
            case rel => exact ⟨j6, a', c', x1, x2, _, rfl, by omega, ⟨x1l, x1h⟩, X, O, T⟩
          ·go_simp
           clear n0 n1 n2 n3 n4 n5 n6 z0 z1 z2 z3 z4 z5 z6 z7 z8; (have bb := Below.nw v2 (.cells #[.int .i64 0, .int .i64 0, .slice none 0 0] 39)); (have X := Bx3.new v2 (.int .i64 0) (.int .i64 0) (.slice none 0 0) 39); (have h6t : bt < v2.heap.size := T.1.1); (have h6p : v2.heap.size ≠ p := by omega); (have H6 : ∀ g, (Value.slice A n c).ownBlock = some g → g ≠ v2.heap.size := fun g hg => by have := (World.ownsRow.lt T.2.1 g hg).2; omega); (have h67 : j7 < v2.heap.size := Y.1.1); (replace Y := Y.below bb); (replace T := T.below bb); clear bb; generalize v2.heap.size = j6 at *; generalize v2.alloc (.cells #[.int .i64 0, .int .i64 0, .slice none 0 0] 39) = v3 at *; (obtain ⟨n0, n1, n2, n3, n4, n5, n6⟩ := id T.1); (obtain ⟨y0, y1, y2, y3, y4, y5, y6⟩ := id X); (obtain ⟨⟨z0, z1, z2, z3, z4⟩, z5, z6, z7, z8⟩ := id Y)
           refine hK.out _ _ ?_ (fun hHeld => ?_)
           ·first | exact ⟨n1, n2, n3⟩ | (simp (maxDischargeDepth := 6) [go_sem, *]; done)
           clear hK K
           (try simp only [Act.put, List.setIfInBounds_toArray, List.set_cons_zero, List.set_cons_succ])
           refine wpAnyH_ready (rs := [4]) (by kernel_rfl) (by simp) ?_
           refine (AllReadyH.cons (by rw [List.getElem?_toArray]; rfl) (fun K hK => ?_) AllReadyH.nil)
           go_simp
           refine (l1Below_any B p 60 _ T.2.2.1).mono ?_; rintro e v4 ⟨x2, rfl, x2l, x2h, _, _, cc, bb⟩; clear n0 n1 n2 n3 n4 n5 n6 y0 y1 y2 y3 y4 y5 y6 z0 z1 z2 z3 z4 z5 z6 z7 z8; (replace T := T.but cc bb hp hbt); (replace X := X.but bb h6p); (replace Y := Y.but bb h7p); clear cc bb; (obtain ⟨n0, n1, n2, n3, n4, n5, n6⟩ := id T.1); (obtain ⟨y0, y1, y2, y3, y4, y5, y6⟩ := id X); (obtain ⟨⟨z0, z1, z2, z3, z4⟩, z5, z6, z7, z8⟩ := id Y)
           (try go_wp2_with fail)
           refine hK.out _ _ ?_ (fun hHeld => ?_)
           ·first | exact ⟨n1, n2, n3⟩ | (simp (maxDischargeDepth := 6) [go_sem, *]; done)
           clear hK K
           (try simp only [Act.put, List.setIfInBounds_toArray, List.set_cons_zero, List.set_cons_succ])
           refine wpAnyH_ready (rs := [6]) (by kernel_rfl) (by simp) ?_
           refine (AllReadyH.cons (by rw [List.getElem?_toArray]; rfl) (fun K hK => ?_) AllReadyH.nil)
           go_simp
           refine (l1Below_any B p 4 _ T.2.2.1).mono ?_; rintro e v5 ⟨x3, rfl, x3l, x3h, _, _, cc, bb⟩; clear n0 n1 n2 n3 n4 n5 n6 y0 y1 y2 y3 y4 y5 y6 z0 z1 z2 z3 z4 z5 z6 z7 z8; (replace T := T.but cc bb hp hbt); (replace X := X.but bb h6p); (replace Y := Y.but bb h7p); clear cc bb; (obtain ⟨n0, n1, n2, n3, n4, n5, n6⟩ := id T.1); (obtain ⟨y0, y1, y2, y3, y4, y5, y6⟩ := id X); (obtain ⟨⟨z0, z1, z2, z3, z4⟩, z5, z6, z7, z8⟩ := id Y)
           (try go_wp2_with fail)
           refine hK.out _ _ ?_ (fun hHeld => ?_)
           ·first | exact ⟨n1, n2, n3⟩ | (simp (maxDischargeDepth := 6) [go_sem, *]; done)
           clear hK K
           (try simp only [Act.put, List.setIfInBounds_toArray, List.set_cons_zero, List.set_cons_succ])
           refine wpAnyH_take (i := 7) (v := ?_) (by rw [List.getElem?_toArray]; rfl) (by kernel_rfl) (by kernel_rfl) (by kernel_rfl) (by intro _ _ _ h; exact h) (Or.inl ⟨by rfl, ?_⟩) (by assumption) ?_
           rotate_left
           ·(intro w hSw; (try dsimp only at hSw); go_simp; all_goals with_reducible rfl)
           (try simp only [Act.put, List.setIfInBounds_toArray, List.set_cons_zero, List.set_cons_succ])
           refine wpAnyH_ready (rs := [8]) (by kernel_rfl) (by simp) ?_
           refine (AllReadyH.cons (by rw [List.getElem?_toArray]; rfl) (fun K hK => ?_) AllReadyH.nil)
           go_simp
           refine (l7Put_opt ep us _ _ _ nn A n c M _ (by omega) (FromsO.own T.2.1) hep hus HNN.out).mono ?_; rintro e v6 ⟨a', c', rfl, O, bb⟩; clear n0 n1 n2 n3 n4 n5 n6 y0 y1 y2 y3 y4 y5 y6 z0 z1 z2 z3 z4 z5 z6 z7 z8; (have hsz : w.heap.size + 1 ≤ v5.heap.size := Nat.le_of_lt (Nat.lt_of_le_of_lt hbt T.1.1)); (replace T := T.below bb); (have G6 : ∀ g, (Value.slice a' (n + 1) c').ownBlock = some g → g ≠ j6 := fun g hg => by have := (World.ownsRow.lt O g hg).1; have := X.1; omega); (replace X := X.below bb); (have G7 : ∀ g, (Value.slice a' (n + 1) c').ownBlock = some g → g ≠ j7 := fun g hg => by have := (World.ownsRow.lt O g hg).1; have := Y.1.1; omega); (replace Y := Y.below bb); (replace O := ownK_le O hsz); clear bb hsz; (obtain ⟨n0, n1, n2, n3, n4, n5, n6⟩ := id T.1); (obtain ⟨y0, y1, y2, y3, y4, y5, y6⟩ := id X); (obtain ⟨⟨z0, z1, z2, z3, z4⟩, z5, z6, z7, z8⟩ := id Y)
           (try go_wp2_with fail)
           refine hK.out _ _ ?_ (fun hHeld => ?_)
           ·first | exact ⟨n1, n2, n3⟩ | (simp (maxDischargeDepth := 6) [go_sem, *]; done)
           clear hK K
           (try simp only [Act.put, List.setIfInBounds_toArray, List.set_cons_zero, List.set_cons_succ])
           refine wpAnyH_take (i := 9) (v := ?_) (by rw [List.getElem?_toArray]; rfl) (by kernel_rfl) (by kernel_rfl) (by kernel_rfl) (by intro _ _ _ h; exact h) (Or.inl ⟨by rfl, ?_⟩) (by assumption) ?_
           rotate_left
           ·(intro w hSw; (try dsimp only at hSw); go_simp; all_goals with_reducible rfl)
           (try simp only [Act.put, List.setIfInBounds_toArray, List.set_cons_zero, List.set_cons_succ])
           refine wpAnyH_take (i := 10) (v := ?_) (by rw [List.getElem?_toArray]; rfl) (by kernel_rfl) (by kernel_rfl) (by kernel_rfl) (by intro _ _ _ h; exact h) (Or.inl ⟨by rfl, ?_⟩) (by assumption) ?_
           rotate_left
           ·(intro w hSw; (try dsimp only at hSw); go_simp; all_goals with_reducible rfl)
           (try simp only [Act.put, List.setIfInBounds_toArray, List.set_cons_zero, List.set_cons_succ])
           refine wpAnyH_take (i := 11) (v := ?_) (by rw [List.getElem?_toArray]; rfl) (by kernel_rfl) (by kernel_rfl) (by kernel_rfl) (by intro _ _ _ h; exact h) (Or.inl ⟨by rfl, ?_⟩) (by assumption) ?_
           rotate_left
           ·(intro w hSw; (try dsimp only at hSw); go_simp; all_goals with_reducible rfl)
           (try simp only [Act.put, List.setIfInBounds_toArray, List.set_cons_zero, List.set_cons_succ])
           refine wpAnyH_ready (rs := [14]) (by kernel_rfl) (by simp) ?_
           refine (AllReadyH.cons (by rw [List.getElem?_toArray]; rfl) (fun K hK => ?_) AllReadyH.nil)
           go_simp
           clear n0 n1 n2 n3 n4 n5 n6 y0 y1 y2 y3 y4 y5 y6 z0 z1 z2 z3 z4 z5 z6 z7 z8; (have bb : But j6 v6 (((v6.setCell ⟨j6, 0, none⟩ (.int .i64 ep)).setCell ⟨j6, 1, none⟩ (.int .i64 (us + 1))).setCell ⟨j6, 2, none⟩ (.slice a' (n + 1) c')) := put3_but _ _ _ _ _); (have cc : CurOk (((v6.setCell ⟨j6, 0, none⟩ (.int .i64 ep)).setCell ⟨j6, 1, none⟩ (.int .i64 (us + 1))).setCell ⟨j6, 2, none⟩ (.slice a' (n + 1) c')) B p := CurOk.put3 T.2.2.1 h6p (by omega) _ _ _); (replace T := T.other bb cc h6t hbt H6); (replace X : Bx3 (((v6.setCell ⟨j6, 0, none⟩ (.int .i64 ep)).setCell ⟨j6, 1, none⟩ (.int .i64 (us + 1))).setCell ⟨j6, 2, none⟩ (.slice a' (n + 1) c')) j6 (.int .i64 ep) (.int .i64 (us + 1)) (.slice a' (n + 1) c') := X.set _ _ _); (replace Y := Y.but bb (by omega)); (replace O := own_neK O bb G6); clear bb cc; generalize (((v6.setCell ⟨j6, 0, none⟩ (.int .i64 ep)).setCell ⟨j6, 1, none⟩ (.int .i64 (us + 1))).setCell ⟨j6, 2, none⟩ (.slice a' (n + 1) c')) = v7 at *; (obtain ⟨n0, n1, n2, n3, n4, n5, n6⟩ := id T.1); (obtain ⟨y0, y1, y2, y3, y4, y5, y6⟩ := id X); (obtain ⟨⟨z0, z1, z2, z3, z4⟩, z5, z6, z7, z8⟩ := id Y)
           refine hK.out _ _ ?_ (fun hHeld => ?_)
           ·first | exact ⟨n1, n2, n3⟩ | (simp (maxDischargeDepth := 6) [go_sem, *]; done)
           clear hK K
           (try simp only [Act.put, List.setIfInBounds_toArray, List.set_cons_zero, List.set_cons_succ])
           refine wpAnyH_ready (rs := [15]) (by kernel_rfl) (by simp) ?_
           refine (AllReadyH.cons (by rw [List.getElem?_toArray]; rfl) (fun K hK => ?_) AllReadyH.nil)
           go_simp
           clear n0 n1 n2 n3 n4 n5 n6 y0 y1 y2 y3 y4 y5 y6 z0 z1 z2 z3 z4 z5 z6 z7 z8; (have bb : But j7 v7 ((((v7.setCell ⟨j7, 0, none⟩ (.int .i64 nn)).setCell ⟨j7, 1, none⟩ (.int .i64 x1)).setCell ⟨j7, 2, none⟩ (.int .i64 x2)).setCell ⟨j7, 3, none⟩ (.int .i64 (IntKind.i64.wrap (1 + x3)))) := put4_but _ _ _ _ _ _); (have cc : CurOk ((((v7.setCell ⟨j7, 0, none⟩ (.int .i64 nn)).setCell ⟨j7, 1, none⟩ (.int .i64 x1)).setCell ⟨j7, 2, none⟩ (.int .i64 x2)).setCell ⟨j7, 3, none⟩ (.int .i64 (IntKind.i64.wrap (1 + x3)))) B p := CurOk.put4 T.2.2.1 h7p (by omega) _ _ _ _); (replace T := T.other bb cc h7t hbt H7); (replace X := X.but bb (by omega)); (replace O := own_neK O bb G7); clear bb cc Y; generalize ((((v7.setCell ⟨j7, 0, none⟩ (.int .i64 nn)).setCell ⟨j7, 1, none⟩ (.int .i64 x1)).setCell ⟨j7, 2, none⟩ (.int .i64 x2)).setCell ⟨j7, 3, none⟩ (.int .i64 (IntKind.i64.wrap (1 + x3)))) = v8 at *; (obtain ⟨n0, n1, n2, n3, n4, n5, n6⟩ := id T.1); (obtain ⟨y0, y1, y2, y3, y4, y5, y6⟩ := id X)
           refine hK.out _ _ ?_ (fun hHeld => ?_)
           ·first | exact ⟨n1, n2, n3⟩ | (simp (maxDischargeDepth := 6) [go_sem, *]; done)
           clear hK K
           (try simp only [Act.put, List.setIfInBounds_toArray, List.set_cons_zero, List.set_cons_succ])
           refine wpAnyH_done (by kernel_rfl) ?_ _
           (try go_wp2_with fail)
           go_meet
           case rel => exact ⟨j6, a', c', x1, x2, _, rfl, by omega, ⟨x1l, x1h⟩, X, O, T⟩
         ·go_simp
          clear n0 n1 n2 n3 n4 n5 n6 z0 z1 z2 z3 z4 z5 z6 z7 z8; (have bb := Below.nw v1 (.cells #[.int .i64 0, .int .i64 0, .slice none 0 0] 39)); (have X := Bx3.new v1 (.int .i64 0) (.int .i64 0) (.slice none 0 0) 39); (have h6t : bt < v1.heap.size := T.1.1); (have h6p : v1.heap.size ≠ p := by omega); (have H6 : ∀ g, (Value.slice A n c).ownBlock = some g → g ≠ v1.heap.size := fun g hg => by have := (World.ownsRow.lt T.2.1 g hg).2; omega); (have h67 : j7 < v1.heap.size := Y.1.1); (replace Y := Y.below bb); (replace T := T.below bb); clear bb; generalize v1.heap.size = j6 at *; generalize v1.alloc (.cells #[.int .i64 0, .int .i64 0, .slice none 0 0] 39) = v2 at *; (obtain ⟨n0, n1, n2, n3, n4, n5, n6⟩ := id T.1); (obtain ⟨y0, y1, y2, y3, y4, y5, y6⟩ := id X); (obtain ⟨⟨z0, z1, z2, z3, z4⟩, z5, z6, z7, z8⟩ := id Y)
          refine hK.out _ _ ?_ (fun hHeld => ?_)
          ·first | exact ⟨n1, n2, n3⟩ | (simp (maxDischargeDepth := 6) [go_sem, *]; done)
          clear hK K
          (try simp only [Act.put, List.setIfInBounds_toArray, List.set_cons_zero, List.set_cons_succ])
          refine wpAnyH_ready (rs := [2]) (by kernel_rfl) (by simp) ?_
          refine (AllReadyH.cons (by rw [List.getElem?_toArray]; rfl) (fun K hK => ?_) AllReadyH.nil)
          go_simp
          refine (l1Below_any B p 4 _ T.2.2.1).mono ?_; rintro e v3 ⟨x1, rfl, x1l, x1h, _, _, cc, bb⟩; clear n0 n1 n2 n3 n4 n5 n6 y0 y1 y2 y3 y4 y5 y6 z0 z1 z2 z3 z4 z5 z6 z7 z8; (replace T := T.but cc bb hp hbt); (replace X := X.but bb h6p); (replace Y := Y.but bb h7p); clear cc bb; (obtain ⟨n0, n1, n2, n3, n4, n5, n6⟩ := id T.1); (obtain ⟨y0, y1, y2, y3, y4, y5, y6⟩ := id X); (obtain ⟨⟨z0, z1, z2, z3, z4⟩, z5, z6, z7, z8⟩ := id Y)
          (try go_wp2_with fail)
          refine hK.out _ _ ?_ (fun hHeld => ?_)
          ·first | exact ⟨n1, n2, n3⟩ | (simp (maxDischargeDepth := 6) [go_sem, *]; done)
          clear hK K
          (try simp only [Act.put, List.setIfInBounds_toArray, List.set_cons_zero, List.set_cons_succ])
          refine wpAnyH_ready (rs := [4]) (by kernel_rfl) (by simp) ?_
          refine (AllReadyH.cons (by rw [List.getElem?_toArray]; rfl) (fun K hK => ?_) AllReadyH.nil)
          go_simp
          refine (l1Below_any B p 60 _ T.2.2.1).mono ?_; rintro e v4 ⟨x2, rfl, x2l, x2h, _, _, cc, bb⟩; clear n0 n1 n2 n3 n4 n5 n6 y0 y1 y2 y3 y4 y5 y6 z0 z1 z2 z3 z4 z5 z6 z7 z8; (replace T := T.but cc bb hp hbt); (replace X := X.but bb h6p); (replace Y := Y.but bb h7p); clear cc bb; (obtain ⟨n0, n1, n2, n3, n4, n5, n6⟩ := id T.1); (obtain ⟨y0, y1, y2, y3, y4, y5, y6⟩ := id X); (obtain ⟨⟨z0, z1, z2, z3, z4⟩, z5, z6, z7, z8⟩ := id Y)
          (try go_wp2_with fail)
          refine hK.out _ _ ?_ (fun hHeld => ?_)
          ·first | exact ⟨n1, n2, n3⟩ | (simp (maxDischargeDepth := 6) [go_sem, *]; done)
          clear hK K
          (try simp only [Act.put, List.setIfInBounds_toArray, List.set_cons_zero, List.set_cons_succ])
          refine wpAnyH_ready (rs := [6]) (by kernel_rfl) (by simp) ?_
          refine (AllReadyH.cons (by rw [List.getElem?_toArray]; rfl) (fun K hK => ?_) AllReadyH.nil)
          go_simp
          refine (l1Below_any B p 4 _ T.2.2.1).mono ?_; rintro e v5 ⟨x3, rfl, x3l, x3h, _, _, cc, bb⟩; clear n0 n1 n2 n3 n4 n5 n6 y0 y1 y2 y3 y4 y5 y6 z0 z1 z2 z3 z4 z5 z6 z7 z8; (replace T := T.but cc bb hp hbt); (replace X := X.but bb h6p); (replace Y := Y.but bb h7p); clear cc bb; (obtain ⟨n0, n1, n2, n3, n4, n5, n6⟩ := id T.1); (obtain ⟨y0, y1, y2, y3, y4, y5, y6⟩ := id X); (obtain ⟨⟨z0, z1, z2, z3, z4⟩, z5, z6, z7, z8⟩ := id Y)
          (try go_wp2_with fail)
          refine hK.out _ _ ?_ (fun hHeld => ?_)
          ·first | exact ⟨n1, n2, n3⟩ | (simp (maxDischargeDepth := 6) [go_sem, *]; done)
          clear hK K
          (try simp only [Act.put, List.setIfInBounds_toArray, List.set_cons_zero, List.set_cons_succ])
          refine wpAnyH_take (i := 7) (v := ?_) (by rw [List.getElem?_toArray]; rfl) (by kernel_rfl) (by kernel_rfl) (by kernel_rfl) (by intro _ _ _ h; exact h) (Or.inl ⟨by rfl, ?_⟩) (by assumption) ?_
          rotate_left
          ·(intro w hSw; (try dsimp only at hSw); go_simp; all_goals with_reducible rfl)
          (try simp only [Act.put, List.setIfInBounds_toArray, List.set_cons_zero, List.set_cons_succ])
          refine wpAnyH_ready (rs := [8]) (by kernel_rfl) (by simp) ?_
          refine (AllReadyH.cons (by rw [List.getElem?_toArray]; rfl) (fun K hK => ?_) AllReadyH.nil)
          go_simp
          refine (l7Put_opt ep us _ _ _ nn A n c M _ (by omega) (FromsO.own T.2.1) hep hus HNN.out).mono ?_; rintro e v6 ⟨a', c', rfl, O, bb⟩; clear n0 n1 n2 n3 n4 n5 n6 y0 y1 y2 y3 y4 y5 y6 z0 z1 z2 z3 z4 z5 z6 z7 z8; (have hsz : w.heap.size + 1 ≤ v5.heap.size := Nat.le_of_lt (Nat.lt_of_le_of_lt hbt T.1.1)); (replace T := T.below bb); (have G6 : ∀ g, (Value.slice a' (n + 1) c').ownBlock = some g → g ≠ j6 := fun g hg => by have := (World.ownsRow.lt O g hg).1; have := X.1; omega); (replace X := X.below bb); (have G7 : ∀ g, (Value.slice a' (n + 1) c').ownBlock = some g → g ≠ j7 := fun g hg => by have := (World.ownsRow.lt O g hg).1; have := Y.1.1; omega); (replace Y := Y.below bb); (replace O := ownK_le O hsz); clear bb hsz; (obtain ⟨n0, n1, n2, n3, n4, n5, n6⟩ := id T.1); (obtain ⟨y0, y1, y2, y3, y4, y5, y6⟩ := id X); (obtain ⟨⟨z0, z1, z2, z3, z4⟩, z5, z6, z7, z8⟩ := id Y)
          (try go_wp2_with fail)
          refine hK.out _ _ ?_ (fun hHeld => ?_)
          ·first | exact ⟨n1, n2, n3⟩ | (simp (maxDischargeDepth := 6) [go_sem, *]; done)
          clear hK K
          (try simp only [Act.put, List.setIfInBounds_toArray, List.set_cons_zero, List.set_cons_succ])
          refine wpAnyH_take (i := 9) (v := ?_) (by rw [List.getElem?_toArray]; rfl) (by kernel_rfl) (by kernel_rfl) (by kernel_rfl) (by intro _ _ _ h; exact h) (Or.inl ⟨by rfl, ?_⟩) (by assumption) ?_
          rotate_left
          ·(intro w hSw; (try dsimp only at hSw); go_simp; all_goals with_reducible rfl)
          (try simp only [Act.put, List.setIfInBounds_toArray, List.set_cons_zero, List.set_cons_succ])
          refine wpAnyH_take (i := 10) (v := ?_) (by rw [List.getElem?_toArray]; rfl) (by kernel_rfl) (by kernel_rfl) (by kernel_rfl) (by intro _ _ _ h; exact h) (Or.inl ⟨by rfl, ?_⟩) (by assumption) ?_
          rotate_left
          ·(intro w hSw; (try dsimp only at hSw); go_simp; all_goals with_reducible rfl)
          (try simp only [Act.put, List.setIfInBounds_toArray, List.set_cons_zero, List.set_cons_succ])
          refine wpAnyH_take (i := 11) (v := ?_) (by rw [List.getElem?_toArray]; rfl) (by kernel_rfl) (by kernel_rfl) (by kernel_rfl) (by intro _ _ _ h; exact h) (Or.inl ⟨by rfl, ?_⟩) (by assumption) ?_
          rotate_left
          ·(intro w hSw; (try dsimp only at hSw); go_simp; all_goals with_reducible rfl)
          (try simp only [Act.put, List.setIfInBounds_toArray, List.set_cons_zero, List.set_cons_succ])
          refine wpAnyH_ready (rs := [14]) (by kernel_rfl) (by simp) ?_
          refine (AllReadyH.cons (by rw [List.getElem?_toArray]; rfl) (fun K hK => ?_) AllReadyH.nil)
          go_simp
          clear n0 n1 n2 n3 n4 n5 n6 y0 y1 y2 y3 y4 y5 y6 z0 z1 z2 z3 z4 z5 z6 z7 z8; (have bb : But j6 v6 (((v6.setCell ⟨j6, 0, none⟩ (.int .i64 ep)).setCell ⟨j6, 1, none⟩ (.int .i64 (us + 1))).setCell ⟨j6, 2, none⟩ (.slice a' (n + 1) c')) := put3_but _ _ _ _ _); (have cc : CurOk (((v6.setCell ⟨j6, 0, none⟩ (.int .i64 ep)).setCell ⟨j6, 1, none⟩ (.int .i64 (us + 1))).setCell ⟨j6, 2, none⟩ (.slice a' (n + 1) c')) B p := CurOk.put3 T.2.2.1 h6p (by omega) _ _ _); (replace T := T.other bb cc h6t hbt H6); (replace X : Bx3 (((v6.setCell ⟨j6, 0, none⟩ (.int .i64 ep)).setCell ⟨j6, 1, none⟩ (.int .i64 (us + 1))).setCell ⟨j6, 2, none⟩ (.slice a' (n + 1) c')) j6 (.int .i64 ep) (.int .i64 (us + 1)) (.slice a' (n + 1) c') := X.set _ _ _); (replace Y := Y.but bb (by omega)); (replace O := own_neK O bb G6); clear bb cc; generalize (((v6.setCell ⟨j6, 0, none⟩ (.int .i64 ep)).setCell ⟨j6, 1, none⟩ (.int .i64 (us + 1))).setCell ⟨j6, 2, none⟩ (.slice a' (n + 1) c')) = v7 at *; (obtain ⟨n0, n1, n2, n3, n4, n5, n6⟩ := id T.1); (obtain ⟨y0, y1, y2, y3, y4, y5, y6⟩ := id X); (obtain ⟨⟨z0, z1, z2, z3, z4⟩, z5, z6, z7, z8⟩ := id Y)
          refine hK.out _ _ ?_ (fun hHeld => ?_)
          ·first | exact ⟨n1, n2, n3⟩ | (simp (maxDischargeDepth := 6) [go_sem, *]; done)
          clear hK K
          (try simp only [Act.put, List.setIfInBounds_toArray, List.set_cons_zero, List.set_cons_succ])
          refine wpAnyH_ready (rs := [15]) (by kernel_rfl) (by simp) ?_
          refine (AllReadyH.cons (by rw [List.getElem?_toArray]; rfl) (fun K hK => ?_) AllReadyH.nil)
          go_simp
          clear n0 n1 n2 n3 n4 n5 n6 y0 y1 y2 y3 y4 y5 y6 z0 z1 z2 z3 z4 z5 z6 z7 z8; (have bb : But j7 v7 ((((v7.setCell ⟨j7, 0, none⟩ (.int .i64 nn)).setCell ⟨j7, 1, none⟩ (.int .i64 x1)).setCell ⟨j7, 2, none⟩ (.int .i64 x2)).setCell ⟨j7, 3, none⟩ (.int .i64 (IntKind.i64.wrap (1 + x3)))) := put4_but _ _ _ _ _ _); (have cc : CurOk ((((v7.setCell ⟨j7, 0, none⟩ (.int .i64 nn)).setCell ⟨j7, 1, none⟩ (.int .i64 x1)).setCell ⟨j7, 2, none⟩ (.int .i64 x2)).setCell ⟨j7, 3, none⟩ (.int .i64 (IntKind.i64.wrap (1 + x3)))) B p := CurOk.put4 T.2.2.1 h7p (by omega) _ _ _ _); (replace T := T.other bb cc h7t hbt H7); (replace X := X.but bb (by omega)); (replace O := own_neK O bb G7); clear bb cc Y; generalize ((((v7.setCell ⟨j7, 0, none⟩ (.int .i64 nn)).setCell ⟨j7, 1, none⟩ (.int .i64 x1)).setCell ⟨j7, 2, none⟩ (.int .i64 x2)).setCell ⟨j7, 3, none⟩ (.int .i64 (IntKind.i64.wrap (1 + x3)))) = v8 at *; (obtain ⟨n0, n1, n2, n3, n4, n5, n6⟩ := id T.1); (obtain ⟨y0, y1, y2, y3, y4, y5, y6⟩ := id X)
          refine hK.out _ _ ?_ (fun hHeld => ?_)
          ·first | exact ⟨n1, n2, n3⟩ | (simp (maxDischargeDepth := 6) [go_sem, *]; done)
          clear hK K
          (try simp only [Act.put, List.setIfInBounds_toArray, List.set_cons_zero, List.set_cons_succ])
          refine wpAnyH_done (by kernel_rfl) ?_ _
          (try go_wp2_with fail)
          go_meet
          case rel => exact ⟨j6, a', c', x1, x2, _, rfl, by omega, ⟨x1l, x1h⟩, X, O, T⟩
       case rest =>
        obtain ⟨j6, a', c', x1, x2, x3, rfl, h6, hx1, X, O, T1⟩ := hcut
        clear T n0 n1 n2 n3 n4 n5 n6
        have T2 : Tw w B p bt (((wc.setCell ⟨bt, 0, none⟩ (.int .i64 ep)).setCell ⟨bt, 1, none⟩ (.int .i64 (us + 1))).setCell ⟨bt, 2, none⟩ (.slice a' (n + 1) c')) ep (us + 1) a' (n + 1) c' (addG M n (kT nn x1 x2 x3)) := T1.take hp hB hbt ep (us + 1) (Nat.succ_pos n) O
        have hk2 : kwf (addG M n (kT nn x1 x2 x3)) (n + 1) := kwf_add hk hnw hx1
        generalize hGG : addG M n (kT nn x1 x2 x3) = G at *
        obtain ⟨n0, n1, n2, n3, n4, n5, n6⟩ := id T1.1
        obtain ⟨y0, y1, y2, y3, y4, y5, y6⟩ := id X
        go_upto_region 14 with fail
        clear n0 n1 n2 n3 n4 n5 n6 y0 y1 y2 y3 y4 y5 y6 X O T1 hGG HNN
        generalize (((wc.setCell ⟨bt, 0, none⟩ (.int .i64 ep)).setCell ⟨bt, 1, none⟩ (.int .i64 (us + 1))).setCell ⟨bt, 2, none⟩ (.slice a' (n + 1) c')) = v9 at *
        go_wp2_with fail
        refine (l1Once_any B p 3 _ T2.2.2.1).mono ?_
        rintro e v10 ⟨oo, rfl, cc, bb⟩
        replace T2 := T2.but cc bb hp hbt
        clear cc bb
        cases oo
        ·obtain ⟨n0, n1, n2, n3, n4, n5, n6⟩ := id T2.1
         go_wp2_with fail
         go_roundw
         case rel => exact ⟨us + 1, a', n + 1, c', _, rfl, by omega, by omega, by omega, hk2, T2⟩
         case measure => simp [intOf]; omega
        ·by_cases hu2 : us + 1 < 1000
         ·have T3 := T2.used hp hB hbt (us + 1 + 1) (no_box T2.2.1 (Nat.succ_pos n) T2.1)
          obtain ⟨n0, n1, n2, n3, n4, n5, n6⟩ := id T2.1
          go_wp2_with fail
          go_roundw
          case rel => exact ⟨us + 1 + 1, a', n + 1, c', _, rfl, by omega, by omega, by omega, hk2, T3⟩
          case measure => simp [intOf]; omega
         ·obtain ⟨n0, n1, n2, n3, n4, n5, n6⟩ := id T2.1
          go_wp2_with fail
          go_roundw
          case rel => exact ⟨us + 1, a', n + 1, c', _, rfl, by omega, by omega, by omega, hk2, T2⟩
          case measure => simp [intOf]; omega
      ·obtain ⟨n0, n1, n2, n3, n4, n5, n6⟩ := id T.1
       obtain ⟨r0, r1, r2, r3, r4, r5, r6⟩ := id T.2.2.2.2
       go_wp2_with fail
       exact bodyPost_ret (v := .agg #[.int .i64 ep, .int .i64 us, .slice A n c]) (by simp (maxDischargeDepth := 6) [results, Try.results47, go_sem, *]) rfl ⟨ep, us, A, n, c, M, rfl, hep, hus, by omega, hk, T.result hp hB⟩
     ·obtain ⟨n0, n1, n2, n3, n4, n5, n6⟩ := id T.1
      obtain ⟨r0, r1, r2, r3, r4, r5, r6⟩ := id T.2.2.2.2
      go_wp2_with fail
      exact bodyPost_ret (v := .agg #[.int .i64 ep, .int .i64 us, .slice A n c]) (by simp (maxDischargeDepth := 6) [results, Try.results47, go_sem, *]) rfl ⟨ep, us, A, n, c, M, rfl, hep, hus, by omega, hk, T.result hp hB⟩
end Go.Proofs.Ytgfhcilhibbooaa
