/- What the draw of a net leaves. -/
import Derived.Test.YtgfhcilhibbooaaMf4
import Derived.Test.YtgfhcilhibbooaaMf5
import Derived.Deep.RegionHeld3
import Derived.Deep.DeepCutAuto
import Derived.WalkKit
import Derived.WalkSpells
import Derived.WalkLawsBesides
import Derived.Deep.RegionHeld
namespace Go.Proofs.Ytgfhcilhibbooaa
open Go.RowKit
set_option linter.unusedVariables false
def fwf (M : Nat → FT) (n : Nat) : Prop := ∀ i, i < n → (Lit.int .i64 (M i).1).wf = true ∧ ((M i).2.2.2.1).size ≤ 100
theorem wf_small5 {x : Int} (h : -9 ≤ x ∧ x ≤ 4294967295) : (Lit.int .i64 x).wf = true := by simp only [Lit.wf, Bool.and_eq_true, decide_eq_true_eq]; exact ⟨by show (-9223372036854775808 : Int) ≤ x; omega, by show x ≤ (9223372036854775807 : Int); omega⟩
theorem fwf_add {M : Nat → FT} {n : Nat} {f : FT} (h : fwf M n) (hx : (Lit.int .i64 f.1).wf = true) (hs : (f.2.2.2.1).size ≤ 100) : fwf (insG M n f) (n + 1) := by
  intro i hi
  unfold insG
  by_cases e : i < n
  · rw [if_pos e]; exact h i e
  · rw [if_neg e, if_pos (by omega)]; exact ⟨hx, hs⟩
theorem But.newF {w w' w'' : World} {p j : Nat} (h : But p w w') (hb : But j w' w'') (hj : w.heap.size ≤ j) : But p w w'' :=
  ⟨hb.1.trans h.1, hb.2.1.trans h.2.1, hb.2.2.1.trans h.2.2.1, Nat.le_trans h.2.2.2.1 hb.2.2.2.1, fun k hk hp => (hb.2.2.2.2 k (Nat.lt_of_lt_of_le hk h.2.2.2.1) (by omega)).trans (h.2.2.2.2 k hk hp)⟩
theorem But.growF {w w' w'' : World} {p : Nat} {o : Option Nat} (h : But p w w') (hg : w'.grownBy w'' o) (ho : ∀ q, q < w.heap.size → some q ≠ o) : But p w w'' :=
  ⟨hg.os.trans h.1, hg.tape.trans h.2.1, hg.output.trans h.2.2.1, Nat.le_trans h.2.2.2.1 hg.size, fun k hk hp => (hg.block k (Nat.lt_of_lt_of_le hk h.2.2.2.1) (ho k hk)).trans (h.2.2.2.2 k hk hp)⟩
theorem ownF_le {w : World} {base base' : Nat} {e : TypeId} {size : Nat} {v : Value} {n : Nat} {xs : List Value} (h : w.ownsRow base e size v n xs) (hb : base' ≤ base) : w.ownsRow base' e size v n xs := by
  refine ⟨h.1, ?_⟩
  rcases h.2 with h | ⟨g, cap, cur, h1, h2, h3, h4⟩
  · exact .inl h
  · exact .inr ⟨g, cap, cur, h1, Nat.le_trans hb h2, h3, h4⟩
theorem CurOk.belowB5 {w w' : World} {B p base : Nat} (h : CurOk w B p) (hb : Below base w w') (hp : p < base) : CurOk w' B p := by
  obtain ⟨a, n, c, i, hh, h0, h1, h2, f0, f1, f2, hi, hn, hc, hB, hpw⟩ := h
  refine ⟨a, n, c, i, hh, ?_, ?_, ?_, ?_, ?_, ?_, hi, hn, hc.below (hb.mono (by omega)), hB, Nat.lt_of_lt_of_le hpw hb.size⟩
  · rw [hb.cell (p := ⟨p, 0, none⟩) hp]; exact h0
  · rw [hb.cell (p := ⟨p, 1, none⟩) hp]; exact h1
  · rw [hb.cell (p := ⟨p, 2, none⟩) hp]; exact h2
  · rw [hb.frozen (p := ⟨p, 0, none⟩) hp]; exact f0
  · rw [hb.frozen (p := ⟨p, 1, none⟩) hp]; exact f1
  · rw [hb.frozen (p := ⟨p, 2, none⟩) hp]; exact f2
/- A net in a box beside the cursor, its flights in a row of one's own. -/
def Nw (w0 : World) (B p bt : Nat) (w : World) (nx : Int) (A : Option Addr) (n c : Nat) (M : Nat → FT) : Prop := B2 w bt (.int .i64 nx) (.slice A n c) ∧ w.ownsRow (w0.heap.size + 1) 30 5 (.slice A n c) n (frow M n) ∧ CurOk w B p ∧ But p w0 w ∧ B2 w w0.heap.size (.int .i64 0) (.slice none 0 0) ∧ (∀ g, (Value.slice A n c).ownBlock = some g → g ≠ bt)
section
variable {w0 w w' : World} {B p bt : Nat} {nx : Int} {A : Option Addr} {n c : Nat} {M : Nat → FT}
theorem Nw.but (h : Nw w0 B p bt w nx A n c M) (hc : CurOk w' B p) (hb : But p w w') (hp : p < w0.heap.size) (hbt : w0.heap.size < bt) : Nw w0 B p bt w' nx A n c M :=
  ⟨h.1.but hb (by omega), own_butF h.2.1 hb (by omega), hc, h.2.2.2.1.trans hb, h.2.2.2.2.1.but hb (by omega), h.2.2.2.2.2⟩
theorem Nw.below (h : Nw w0 B p bt w nx A n c M) (hb : Below w.heap.size w w') : Nw w0 B p bt w' nx A n c M :=
  ⟨h.1.below hb, own_belowF h.2.1 hb, h.2.2.1.below hb, h.2.2.2.1.trans (But.of_below hb), h.2.2.2.2.1.below hb, h.2.2.2.2.2⟩
theorem Nw.drew (h : Nw w0 B p bt w nx A n c M) : Nw w0 B p bt w.drew nx A n c M := h
/- A new block, written, that is neither the net's nor the row's. -/
theorem Nw.other {j : Nat} (h : Nw w0 B p bt w nx A n c M) (hb : But j w w') (hc : CurOk w' B p) (hj : bt < j) (hbt : w0.heap.size < bt) (hg : ∀ g, (Value.slice A n c).ownBlock = some g → g ≠ j) : Nw w0 B p bt w' nx A n c M :=
  ⟨h.1.but hb (by omega), own_neF h.2.1 hb hg, hc, h.2.2.2.1.newF hb (by omega), h.2.2.2.2.1.but hb (by omega), h.2.2.2.2.2⟩
theorem Nw.next (h : Nw w0 B p bt w nx A n c M) (hp : p < w0.heap.size) (hB : B ≤ p) (hbt : w0.heap.size < bt) (nx' : Int) : Nw w0 B p bt (w.setCell ⟨bt, 0, none⟩ (.int .i64 nx')) nx' A n c M :=
  ⟨h.1.set0 _, own_neF h.2.1 (But.one _ _ _ _) h.2.2.2.2.2, h.2.2.1.setOther (by omega) (by omega) _ _, h.2.2.2.1.newF (But.one _ _ _ _) (by omega), h.2.2.2.2.1.but (But.one _ _ _ _) (by omega), h.2.2.2.2.2⟩
/- Its list grew: the row that it holds now. -/
theorem Nw.grow {A' : Option Addr} {n' c' : Nat} {M' : Nat → FT} (h : Nw w0 B p bt w nx A n c M) (hp : p < w0.heap.size) (hB : B ≤ p) (hbt : w0.heap.size < bt) (hg : w.grownBy w' (Value.slice A n c).ownBlock) (ho : w'.ownsRow (w0.heap.size + 1) 30 5 (.slice A' n' c') n' (frow M' n')) (hf : ∀ g, (Value.slice A' n' c').ownBlock = some g → (Value.slice A n c).ownBlock = some g ∨ w.heap.size ≤ g) : Nw w0 B p bt (w'.setCell ⟨bt, 1, none⟩ (.slice A' n' c')) nx A' n' c' M' := by
  have hbw := h.1.1
  have hne : some bt ≠ (Value.slice A n c).ownBlock := fun e => h.2.2.2.2.2 bt e.symm rfl
  have hlt : ∀ q, q < w0.heap.size + 1 → some q ≠ (Value.slice A n c).ownBlock := fun q hq e => by have := (World.ownsRow.lt h.2.1 q e.symm).1; omega
  have hN : ∀ g, (Value.slice A' n' c').ownBlock = some g → g ≠ bt := fun g hg2 e => by
    rcases hf g hg2 with q | q
    · exact hne (by rw [q, e])
    · omega
  have hG : Below (w0.heap.size + 1) w w' := grown_belG hg (by omega) hlt
  have hc : CurOk w' B p := CurOk.belowB5 h.2.2.1 hG (by omega)
  exact ⟨(h.1.keptG hg hne).set1 _, own_neF ho (But.one _ _ _ _) hN, hc.setOther (by omega) (by omega) _ _, (h.2.2.2.1.growF hg (fun q hq => hlt q (by omega))).newF (But.one _ _ _ _) (by omega), (h.2.2.2.2.1.keptG hg (hlt _ (by omega))).but (But.one _ _ _ _) (by omega), hN⟩
theorem Nw.result (h : Nw w0 B p bt w nx A n c M) (hp : p < w0.heap.size) (hB : B ≤ p) {u0 u1 : Value} : ((w.setCell ⟨w0.heap.size, 0, none⟩ u0).setCell ⟨w0.heap.size, 1, none⟩ u1).ownsRow w0.heap.size 30 5 (.slice A n c) n (frow M n) ∧ CurOk ((w.setCell ⟨w0.heap.size, 0, none⟩ u0).setCell ⟨w0.heap.size, 1, none⟩ u1) B p ∧ But p w0 ((w.setCell ⟨w0.heap.size, 0, none⟩ u0).setCell ⟨w0.heap.size, 1, none⟩ u1) := by
  have hb : But w0.heap.size w ((w.setCell ⟨w0.heap.size, 0, none⟩ u0).setCell ⟨w0.heap.size, 1, none⟩ u1) := ((But.refl _ w).setCell 0 u0).setCell 1 u1
  exact ⟨ownF_le (own_butF h.2.1 hb (by omega)) (by omega), (h.2.2.1.setOther (by omega) (by omega) _ _).setOther (by omega) (by omega) _ _, h.2.2.2.1.newF hb (Nat.le_refl _)⟩
end
theorem CurOk.put5 {w : World} {B p k : Nat} (h : CurOk w B p) (hk : k ≠ p) (hB : B ≤ k) (u0 u1 u2 u3 u4 : Value) : CurOk (put5z w k u0 u1 u2 u3 u4) B p := ((((h.setOther hk hB _ _).setOther hk hB _ _).setOther hk hB _ _).setOther hk hB _ _).setOther hk hB _ _
def NetDrawn (w : World) (B p : Nat) (e : Ending) (w' : World) : Prop := ∃ (nx : Int) (A : Option Addr) (n c : Nat) (M : Nat → FT), e = .returned (.agg #[.int .i64 nx, .slice A n c]) ∧ (0 ≤ nx ∧ nx ≤ 1000000) ∧ n ≤ 40 ∧ fwf M n ∧ w'.ownsRow w.heap.size 30 5 (.slice A n c) n (frow M n) ∧ CurOk w' B p ∧ But p w w'
set_option maxRecDepth 100000 in
set_option maxHeartbeats 8000000 in
theorem l5DrawNet_any (B p : Nat) (w : World) (hcur : CurOk w B p) :
    Calls Try.prog 57 #[.pointer (some ⟨p, 0, none⟩)] w fun e w' => NetDrawn w B p e w' := by
  obtain ⟨i0, hi, hz0, hz1, hz2⟩ := infoF_parts
  have hpl := hcur.lt
  have hp : p < w.heap.size := hpl.1
  have hB : B ≤ p := hpl.2
  have hpw : w.heap.size ≠ p := by omega
  have A1 := Below.nw w (.cells #[.int .i64 0, .slice none 0 0] 26)
  have R := B2.new w (.int .i64 0) (.slice none 0 0) 26
  go_enter Try.func57, Try.ntmps57
  go_wp2_with fail
  refine (l1Below_any B p 4 _ (by exact hcur.below A1)).mono ?_
  rintro e w1 ⟨x, rfl, xl, xh, xp, xz, c1, b1⟩
  have hx := xp (by omega)
  replace R := R.but b1 hpw
  have q1 : But p w w1 := (But.of_below A1).trans b1
  have A2 := Below.nw w1 (.cells #[.int .i64 x, .slice none 0 0] 26)
  have T : Nw w B p w1.heap.size (w1.alloc (.cells #[.int .i64 x, .slice none 0 0] 26)) x none 0 0 (fun _ => zF) := ⟨B2.new w1 _ _ _, World.ownsRow_nil _ _ _ _, c1.below A2, q1.alloc _, R.below A2, by intro g hg; simp [Value.ownBlock] at hg⟩
  have hbt : w.heap.size < w1.heap.size := R.1
  clear A1 A2 b1 q1 R xp xz c1 hcur xh
  go_upto_region 2 with fail
  generalize w1.heap.size = bt at *
  generalize w1.alloc (.cells #[.int .i64 x, .slice none 0 0] 26) = v at *
  have hbp : bt ≠ p := by omega
  go_wp2_with fail
  refine (l1Below_any B p 8 _ T.2.2.1).mono ?_
  rintro e v1 ⟨m0, rfl, ml, mh, mp, mz, cc, bb⟩
  have hm := mp (by omega)
  replace T := T.but cc bb hp hbt
  clear cc bb mp mz mh
  go_wp2_with fail
  refine (l1Once_any B p 15 _ T.2.2.1).mono ?_
  rintro e v2 ⟨oo, rfl, cc, bb⟩
  replace T := T.but cc bb hp hbt
  clear cc bb
  go_upto_if 13 with fail
  go_cut [4] (fun s4 wx => ∃ m : Int, s4 = .int .i64 m ∧ 0 ≤ m ∧ m ≤ 40 ∧ Nw w B p bt wx x none 0 0 (fun _ => zF))
  case first =>
    cases oo
    · go_wp2_with fail
      go_meet
      case rel => exact ⟨m0, rfl, ml, by omega, T⟩
    · go_wp2_with fail
      go_meet
      case rel => exact ⟨40, rfl, by omega, by omega, T⟩
  case rest =>
    obtain ⟨m, rfl, g0, g1, T0⟩ := hcut
    clear T hm ml
    go_wp2_with fail
    go_loopw [5] (fun i wr => ∃ (nx : Int) (A : Option Addr) (n c : Nat) (M : Nat → FT), i = .int .i64 (n : Int) ∧ (n : Int) ≤ m ∧ 0 ≤ nx ∧ nx ≤ 4 + 2 * (n : Int) ∧ fwf M n ∧ Nw w B p bt wr nx A n c M) (fun i _ => m.toNat - (intOf i).toNat)
    case atStart => exact ⟨x, none, 0, 0, _, rfl, g0, xl, by omega, (fun i hi => by omega), T0⟩
    case round =>
      obtain ⟨nx, A, n, c, M, rfl, hnm, hn0, hn1, hk, T⟩ := hrel
      clear T0 hx xl
      have hnx : 0 ≤ nx ∧ nx ≤ 84 := ⟨hn0, by omega⟩
      have hn40 : n ≤ 40 := by omega
      by_cases hlt : (n : Int) < m
      · obtain ⟨n0, n1, n2, n3, n4⟩ := id T.1
        go_upto_region 8 with fail
        go_cut [6] from 14 to 42 (fun s6 wx => ∃ (j6 : Nat) (x1 x2 : Int) (x3 : ByteArray) (x4 : Int), s6 = .pointer (some ⟨j6, 0, none⟩) ∧ bt < j6 ∧ j6 ≠ p ∧ x3.size ≤ 100 ∧ F5 wx j6 nx x1 x2 x3 x4 ∧ Nw w B p bt wx nx A n c M)
        case first =>
          refine wp_region_held_drew (S := (fun w' => w'.cell? ⟨bt, 0, none⟩ = some (.int .i64 nx))) (by kernel_rfl) ?_ (fun hHeld => ?_)
          · first | exact n1 | (simp (maxDischargeDepth := 6) [go_sem, *]; done)
          clear n0 n1 n2 n3 n4
          replace T := T.drew
          generalize wr.drew = v at *
          (obtain ⟨n0, n1, n2, n3, n4⟩ := id T.1)
          refine wpAnyH_take (i := 0) (v := ?_) (by rw [List.getElem?_toArray]; rfl) (by kernel_rfl) (by kernel_rfl) (by kernel_rfl) (by intro _ _ _ h; exact h) (Or.inl ⟨by rfl, ?_⟩) (by assumption) ?_
          rotate_left
          · (intro w hSw; (try dsimp only at hSw); go_simp; all_goals with_reducible rfl)
          (try simp only [Act.put, List.setIfInBounds_toArray, List.set_cons_zero, List.set_cons_succ])
          refine wpAnyH_take (i := 1) (v := ?_) (by rw [List.getElem?_toArray]; rfl) (by kernel_rfl) (by kernel_rfl) (by kernel_rfl) (by intro _ _ _ h; exact h) (Or.inl ⟨by rfl, ?_⟩) (by assumption) ?_
          rotate_left
          · (intro w hSw; (try dsimp only at hSw); go_simp; all_goals with_reducible rfl)
          (try simp only [Act.put, List.setIfInBounds_toArray, List.set_cons_zero, List.set_cons_succ])
          refine wpAnyH_take (i := 2) (v := ?_) (by rw [List.getElem?_toArray]; rfl) (by kernel_rfl) (by kernel_rfl) (by kernel_rfl) (by intro _ _ _ h; exact h) (Or.inl ⟨by rfl, ?_⟩) (by assumption) ?_
          rotate_left
          · (intro w hSw; (try dsimp only at hSw); go_simp; all_goals with_reducible rfl)
          (try simp only [Act.put, List.setIfInBounds_toArray, List.set_cons_zero, List.set_cons_succ])
          refine wpAnyH_take (i := 4) (v := ?_) (by rw [List.getElem?_toArray]; rfl) (by kernel_rfl) (by kernel_rfl) (by kernel_rfl) (by intro _ _ _ h; exact h) (Or.inl ⟨by rfl, ?_⟩) (by assumption) ?_
          rotate_left
          · (intro w hSw; (try dsimp only at hSw); go_simp; all_goals with_reducible rfl)
          (try simp only [Act.put, List.setIfInBounds_toArray, List.set_cons_zero, List.set_cons_succ])
          refine wpAnyH_take (i := 6) (v := ?_) (by rw [List.getElem?_toArray]; rfl) (by kernel_rfl) (by kernel_rfl) (by kernel_rfl) (by intro _ _ _ h; exact h) (Or.inl ⟨by rfl, ?_⟩) (by assumption) ?_
          rotate_left
          · (intro w hSw; (try dsimp only at hSw); go_simp; all_goals with_reducible rfl)
          (try simp only [Act.put, List.setIfInBounds_toArray, List.set_cons_zero, List.set_cons_succ])
          refine wpAnyH_take (i := 8) (v := ?_) (by rw [List.getElem?_toArray]; rfl) (by kernel_rfl) (by kernel_rfl) (by kernel_rfl) (by intro _ _ _ h; exact h) (Or.inl ⟨by rfl, ?_⟩) (by assumption) ?_
          rotate_left
          · (intro w hSw; (try dsimp only at hSw); go_simp; all_goals with_reducible rfl)
          (try simp only [Act.put, List.setIfInBounds_toArray, List.set_cons_zero, List.set_cons_succ])
          refine wpAnyH_ready (rs := [3, 11]) (by kernel_rfl) (by simp) ?_
          refine (AllReadyH.cons (by rw [List.getElem?_toArray]; rfl) (fun K hK => ?_) (AllReadyH.cons (by rw [List.getElem?_toArray]; rfl) (fun K hK => ?_) AllReadyH.nil))
          · go_simp
            refine (l1Below_any B p 8 _ T.2.2.1).mono ?_; rintro e v1 ⟨x1, rfl, x1l, x1h, _, _, cc, bb⟩; clear n0 n1 n2 n3 n4; (replace T := T.but cc bb hp hbt); clear cc bb; (obtain ⟨n0, n1, n2, n3, n4⟩ := id T.1)
            (try go_wp2_with fail)
            refine hK.out _ _ ?_ (fun hHeld => ?_)
            · first | exact n1 | (simp (maxDischargeDepth := 6) [go_sem, *]; done)
            clear hK K
            (try simp only [Act.put, List.setIfInBounds_toArray, List.set_cons_zero, List.set_cons_succ])
            refine wpAnyH_ready (rs := [5, 11]) (by kernel_rfl) (by simp) ?_
            refine (AllReadyH.cons (by rw [List.getElem?_toArray]; rfl) (fun K hK => ?_) (AllReadyH.cons (by rw [List.getElem?_toArray]; rfl) (fun K hK => ?_) AllReadyH.nil))
            · go_simp
              refine (l1Below_any B p 4 _ T.2.2.1).mono ?_; rintro e v2 ⟨x2, rfl, x2l, x2h, _, _, cc, bb⟩; clear n0 n1 n2 n3 n4; (replace T := T.but cc bb hp hbt); clear cc bb; (obtain ⟨n0, n1, n2, n3, n4⟩ := id T.1)
              (try go_wp2_with fail)
              refine hK.out _ _ ?_ (fun hHeld => ?_)
              · first | exact n1 | (simp (maxDischargeDepth := 6) [go_sem, *]; done)
              clear hK K
              (try simp only [Act.put, List.setIfInBounds_toArray, List.set_cons_zero, List.set_cons_succ])
              refine wpAnyH_ready (rs := [7, 11]) (by kernel_rfl) (by simp) ?_
              refine (AllReadyH.cons (by rw [List.getElem?_toArray]; rfl) (fun K hK => ?_) (AllReadyH.cons (by rw [List.getElem?_toArray]; rfl) (fun K hK => ?_) AllReadyH.nil))
              · go_simp
                refine (l4DrawBody_any B p 4 _ T.2.2.1 (by omega) (by omega)).mono ?_; rintro e v3 ⟨x3, rfl, x3s, cc, bb⟩; clear n0 n1 n2 n3 n4; (replace T := T.but cc bb hp hbt); clear cc bb; (obtain ⟨n0, n1, n2, n3, n4⟩ := id T.1)
                (try go_wp2_with fail)
                refine hK.out _ _ ?_ (fun hHeld => ?_)
                · first | exact n1 | (simp (maxDischargeDepth := 6) [go_sem, *]; done)
                clear hK K
                (try simp only [Act.put, List.setIfInBounds_toArray, List.set_cons_zero, List.set_cons_succ])
                refine wpAnyH_ready (rs := [9, 11]) (by kernel_rfl) (by simp) ?_
                refine (AllReadyH.cons (by rw [List.getElem?_toArray]; rfl) (fun K hK => ?_) (AllReadyH.cons (by rw [List.getElem?_toArray]; rfl) (fun K hK => ?_) AllReadyH.nil))
                · go_simp
                  refine (l1Below_any B p 90 _ T.2.2.1).mono ?_; rintro e v4 ⟨x4, rfl, x4l, x4h, _, _, cc, bb⟩; clear n0 n1 n2 n3 n4; (replace T := T.but cc bb hp hbt); clear cc bb; (obtain ⟨n0, n1, n2, n3, n4⟩ := id T.1)
                  (try go_wp2_with fail)
                  refine hK.out _ _ ?_ (fun hHeld => ?_)
                  · first | exact n1 | (simp (maxDischargeDepth := 6) [go_sem, *]; done)
                  clear hK K
                  (try simp only [Act.put, List.setIfInBounds_toArray, List.set_cons_zero, List.set_cons_succ])
                  refine wpAnyH_take (i := 10) (v := ?_) (by rw [List.getElem?_toArray]; rfl) (by kernel_rfl) (by kernel_rfl) (by kernel_rfl) (by intro _ _ _ h; exact h) (Or.inl ⟨by rfl, ?_⟩) (by assumption) ?_
                  rotate_left
                  · (intro w hSw; (try dsimp only at hSw); go_simp; all_goals with_reducible rfl)
                  (try simp only [Act.put, List.setIfInBounds_toArray, List.set_cons_zero, List.set_cons_succ])
                  refine wpAnyH_ready (rs := [11]) (by kernel_rfl) (by simp) ?_
                  refine (AllReadyH.cons (by rw [List.getElem?_toArray]; rfl) (fun K hK => ?_) AllReadyH.nil)
                  go_simp
                  clear n0 n1 n2 n3 n4; (have bb := Below.nw v4 (.cells #[.int .i64 0, .int .i64 0, .int .i64 0, .string ⟨#[]⟩, .int .i64 0] 30)); (have X := F5.new v4 0 0 0 ⟨#[]⟩ 0 30); (have h6t : bt < v4.heap.size := T.1.1); (have h6p : v4.heap.size ≠ p := by omega); (have H6 : ∀ g, (Value.slice A n c).ownBlock = some g → g ≠ v4.heap.size := fun g hg => by have := (World.ownsRow.lt T.2.1 g hg).2; omega); (replace T := T.below bb); clear bb; generalize v4.heap.size = j6 at *; generalize v4.alloc (.cells #[.int .i64 0, .int .i64 0, .int .i64 0, .string ⟨#[]⟩, .int .i64 0] 30) = v5 at *; (obtain ⟨n0, n1, n2, n3, n4⟩ := id T.1); (obtain ⟨y0, y1, y2, y3, y4, y5, y6, y7, y8, y9, y10⟩ := id X)
                  refine hK.out _ _ ?_ (fun hHeld => ?_)
                  · first | exact n1 | (simp (maxDischargeDepth := 6) [go_sem, *]; done)
                  clear hK K
                  (try simp only [Act.put, List.setIfInBounds_toArray, List.set_cons_zero, List.set_cons_succ])
                  refine wpAnyH_ready (rs := [12]) (by kernel_rfl) (by simp) ?_
                  refine (AllReadyH.cons (by rw [List.getElem?_toArray]; rfl) (fun K hK => ?_) AllReadyH.nil)
                  go_simp
                  clear n0 n1 n2 n3 n4 y0 y1 y2 y3 y4 y5 y6 y7 y8 y9 y10; (have bb : But j6 v5 (((((v5.setCell ⟨j6, 0, none⟩ (.int .i64 nx)).setCell ⟨j6, 1, none⟩ (.int .i64 x1)).setCell ⟨j6, 2, none⟩ (.int .i64 x2)).setCell ⟨j6, 3, none⟩ (.string x3)).setCell ⟨j6, 4, none⟩ (.int .i64 x4)) := put5z_but _ _ _ _ _ _ _); (have cc : CurOk (((((v5.setCell ⟨j6, 0, none⟩ (.int .i64 nx)).setCell ⟨j6, 1, none⟩ (.int .i64 x1)).setCell ⟨j6, 2, none⟩ (.int .i64 x2)).setCell ⟨j6, 3, none⟩ (.string x3)).setCell ⟨j6, 4, none⟩ (.int .i64 x4)) B p := CurOk.put5 T.2.2.1 h6p (by omega) _ _ _ _ _); (replace T := T.other bb cc h6t hbt H6); (replace X : F5 (((((v5.setCell ⟨j6, 0, none⟩ (.int .i64 nx)).setCell ⟨j6, 1, none⟩ (.int .i64 x1)).setCell ⟨j6, 2, none⟩ (.int .i64 x2)).setCell ⟨j6, 3, none⟩ (.string x3)).setCell ⟨j6, 4, none⟩ (.int .i64 x4)) j6 nx x1 x2 x3 x4 := X.set5 _ _ _ _ _); clear bb cc; generalize (((((v5.setCell ⟨j6, 0, none⟩ (.int .i64 nx)).setCell ⟨j6, 1, none⟩ (.int .i64 x1)).setCell ⟨j6, 2, none⟩ (.int .i64 x2)).setCell ⟨j6, 3, none⟩ (.string x3)).setCell ⟨j6, 4, none⟩ (.int .i64 x4)) = v6 at *; (obtain ⟨n0, n1, n2, n3, n4⟩ := id T.1); (obtain ⟨y0, y1, y2, y3, y4, y5, y6, y7, y8, y9, y10⟩ := id X)
                  refine hK.out _ _ ?_ (fun hHeld => ?_)
                  · first | exact n1 | (simp (maxDischargeDepth := 6) [go_sem, *]; done)
                  clear hK K
                  (try simp only [Act.put, List.setIfInBounds_toArray, List.set_cons_zero, List.set_cons_succ])
                  refine wpAnyH_done (by kernel_rfl) ?_ _
                  (try go_wp2_with fail)
                  go_meet
                  case rel => exact ⟨j6, x1, x2, x3, x4, rfl, h6t, h6p, x3s, X, T⟩
                · go_simp
                  clear n0 n1 n2 n3 n4; (have bb := Below.nw v3 (.cells #[.int .i64 0, .int .i64 0, .int .i64 0, .string ⟨#[]⟩, .int .i64 0] 30)); (have X := F5.new v3 0 0 0 ⟨#[]⟩ 0 30); (have h6t : bt < v3.heap.size := T.1.1); (have h6p : v3.heap.size ≠ p := by omega); (have H6 : ∀ g, (Value.slice A n c).ownBlock = some g → g ≠ v3.heap.size := fun g hg => by have := (World.ownsRow.lt T.2.1 g hg).2; omega); (replace T := T.below bb); clear bb; generalize v3.heap.size = j6 at *; generalize v3.alloc (.cells #[.int .i64 0, .int .i64 0, .int .i64 0, .string ⟨#[]⟩, .int .i64 0] 30) = v4 at *; (obtain ⟨n0, n1, n2, n3, n4⟩ := id T.1); (obtain ⟨y0, y1, y2, y3, y4, y5, y6, y7, y8, y9, y10⟩ := id X)
                  refine hK.out _ _ ?_ (fun hHeld => ?_)
                  · first | exact n1 | (simp (maxDischargeDepth := 6) [go_sem, *]; done)
                  clear hK K
                  (try simp only [Act.put, List.setIfInBounds_toArray, List.set_cons_zero, List.set_cons_succ])
                  refine wpAnyH_ready (rs := [9]) (by kernel_rfl) (by simp) ?_
                  refine (AllReadyH.cons (by rw [List.getElem?_toArray]; rfl) (fun K hK => ?_) AllReadyH.nil)
                  go_simp
                  refine (l1Below_any B p 90 _ T.2.2.1).mono ?_; rintro e v5 ⟨x4, rfl, x4l, x4h, _, _, cc, bb⟩; clear n0 n1 n2 n3 n4 y0 y1 y2 y3 y4 y5 y6 y7 y8 y9 y10; (replace T := T.but cc bb hp hbt); (replace X := X.but bb h6p); clear cc bb; (obtain ⟨n0, n1, n2, n3, n4⟩ := id T.1); (obtain ⟨y0, y1, y2, y3, y4, y5, y6, y7, y8, y9, y10⟩ := id X)
                  (try go_wp2_with fail)
                  refine hK.out _ _ ?_ (fun hHeld => ?_)
                  · first | exact n1 | (simp (maxDischargeDepth := 6) [go_sem, *]; done)
                  clear hK K
                  (try simp only [Act.put, List.setIfInBounds_toArray, List.set_cons_zero, List.set_cons_succ])
                  refine wpAnyH_take (i := 10) (v := ?_) (by rw [List.getElem?_toArray]; rfl) (by kernel_rfl) (by kernel_rfl) (by kernel_rfl) (by intro _ _ _ h; exact h) (Or.inl ⟨by rfl, ?_⟩) (by assumption) ?_
                  rotate_left
                  · (intro w hSw; (try dsimp only at hSw); go_simp; all_goals with_reducible rfl)
                  (try simp only [Act.put, List.setIfInBounds_toArray, List.set_cons_zero, List.set_cons_succ])
                  refine wpAnyH_ready (rs := [12]) (by kernel_rfl) (by simp) ?_
                  refine (AllReadyH.cons (by rw [List.getElem?_toArray]; rfl) (fun K hK => ?_) AllReadyH.nil)
                  go_simp
                  clear n0 n1 n2 n3 n4 y0 y1 y2 y3 y4 y5 y6 y7 y8 y9 y10; (have bb : But j6 v5 (((((v5.setCell ⟨j6, 0, none⟩ (.int .i64 nx)).setCell ⟨j6, 1, none⟩ (.int .i64 x1)).setCell ⟨j6, 2, none⟩ (.int .i64 x2)).setCell ⟨j6, 3, none⟩ (.string x3)).setCell ⟨j6, 4, none⟩ (.int .i64 x4)) := put5z_but _ _ _ _ _ _ _); (have cc : CurOk (((((v5.setCell ⟨j6, 0, none⟩ (.int .i64 nx)).setCell ⟨j6, 1, none⟩ (.int .i64 x1)).setCell ⟨j6, 2, none⟩ (.int .i64 x2)).setCell ⟨j6, 3, none⟩ (.string x3)).setCell ⟨j6, 4, none⟩ (.int .i64 x4)) B p := CurOk.put5 T.2.2.1 h6p (by omega) _ _ _ _ _); (replace T := T.other bb cc h6t hbt H6); (replace X : F5 (((((v5.setCell ⟨j6, 0, none⟩ (.int .i64 nx)).setCell ⟨j6, 1, none⟩ (.int .i64 x1)).setCell ⟨j6, 2, none⟩ (.int .i64 x2)).setCell ⟨j6, 3, none⟩ (.string x3)).setCell ⟨j6, 4, none⟩ (.int .i64 x4)) j6 nx x1 x2 x3 x4 := X.set5 _ _ _ _ _); clear bb cc; generalize (((((v5.setCell ⟨j6, 0, none⟩ (.int .i64 nx)).setCell ⟨j6, 1, none⟩ (.int .i64 x1)).setCell ⟨j6, 2, none⟩ (.int .i64 x2)).setCell ⟨j6, 3, none⟩ (.string x3)).setCell ⟨j6, 4, none⟩ (.int .i64 x4)) = v6 at *; (obtain ⟨n0, n1, n2, n3, n4⟩ := id T.1); (obtain ⟨y0, y1, y2, y3, y4, y5, y6, y7, y8, y9, y10⟩ := id X)
                  refine hK.out _ _ ?_ (fun hHeld => ?_)
                  · first | exact n1 | (simp (maxDischargeDepth := 6) [go_sem, *]; done)
                  clear hK K
                  (try simp only [Act.put, List.setIfInBounds_toArray, List.set_cons_zero, List.set_cons_succ])
                  refine wpAnyH_done (by kernel_rfl) ?_ _
                  (try go_wp2_with fail)
                  go_meet
                  case rel => exact ⟨j6, x1, x2, x3, x4, rfl, h6t, h6p, x3s, X, T⟩
              · go_simp
                clear n0 n1 n2 n3 n4; (have bb := Below.nw v2 (.cells #[.int .i64 0, .int .i64 0, .int .i64 0, .string ⟨#[]⟩, .int .i64 0] 30)); (have X := F5.new v2 0 0 0 ⟨#[]⟩ 0 30); (have h6t : bt < v2.heap.size := T.1.1); (have h6p : v2.heap.size ≠ p := by omega); (have H6 : ∀ g, (Value.slice A n c).ownBlock = some g → g ≠ v2.heap.size := fun g hg => by have := (World.ownsRow.lt T.2.1 g hg).2; omega); (replace T := T.below bb); clear bb; generalize v2.heap.size = j6 at *; generalize v2.alloc (.cells #[.int .i64 0, .int .i64 0, .int .i64 0, .string ⟨#[]⟩, .int .i64 0] 30) = v3 at *; (obtain ⟨n0, n1, n2, n3, n4⟩ := id T.1); (obtain ⟨y0, y1, y2, y3, y4, y5, y6, y7, y8, y9, y10⟩ := id X)
                refine hK.out _ _ ?_ (fun hHeld => ?_)
                · first | exact n1 | (simp (maxDischargeDepth := 6) [go_sem, *]; done)
                clear hK K
                (try simp only [Act.put, List.setIfInBounds_toArray, List.set_cons_zero, List.set_cons_succ])
                refine wpAnyH_ready (rs := [7]) (by kernel_rfl) (by simp) ?_
                refine (AllReadyH.cons (by rw [List.getElem?_toArray]; rfl) (fun K hK => ?_) AllReadyH.nil)
                go_simp
                refine (l4DrawBody_any B p 4 _ T.2.2.1 (by omega) (by omega)).mono ?_; rintro e v4 ⟨x3, rfl, x3s, cc, bb⟩; clear n0 n1 n2 n3 n4 y0 y1 y2 y3 y4 y5 y6 y7 y8 y9 y10; (replace T := T.but cc bb hp hbt); (replace X := X.but bb h6p); clear cc bb; (obtain ⟨n0, n1, n2, n3, n4⟩ := id T.1); (obtain ⟨y0, y1, y2, y3, y4, y5, y6, y7, y8, y9, y10⟩ := id X)
                (try go_wp2_with fail)
                refine hK.out _ _ ?_ (fun hHeld => ?_)
                · first | exact n1 | (simp (maxDischargeDepth := 6) [go_sem, *]; done)
                clear hK K
                (try simp only [Act.put, List.setIfInBounds_toArray, List.set_cons_zero, List.set_cons_succ])
                refine wpAnyH_ready (rs := [9]) (by kernel_rfl) (by simp) ?_
                refine (AllReadyH.cons (by rw [List.getElem?_toArray]; rfl) (fun K hK => ?_) AllReadyH.nil)
                go_simp
                refine (l1Below_any B p 90 _ T.2.2.1).mono ?_; rintro e v5 ⟨x4, rfl, x4l, x4h, _, _, cc, bb⟩; clear n0 n1 n2 n3 n4 y0 y1 y2 y3 y4 y5 y6 y7 y8 y9 y10; (replace T := T.but cc bb hp hbt); (replace X := X.but bb h6p); clear cc bb; (obtain ⟨n0, n1, n2, n3, n4⟩ := id T.1); (obtain ⟨y0, y1, y2, y3, y4, y5, y6, y7, y8, y9, y10⟩ := id X)
                (try go_wp2_with fail)
                refine hK.out _ _ ?_ (fun hHeld => ?_)
                · first | exact n1 | (simp (maxDischargeDepth := 6) [go_sem, *]; done)
                clear hK K
                (try simp only [Act.put, List.setIfInBounds_toArray, List.set_cons_zero, List.set_cons_succ])
                refine wpAnyH_take (i := 10) (v := ?_) (by rw [List.getElem?_toArray]; rfl) (by kernel_rfl) (by kernel_rfl) (by kernel_rfl) (by intro _ _ _ h; exact h) (Or.inl ⟨by rfl, ?_⟩) (by assumption) ?_
                rotate_left
                · (intro w hSw; (try dsimp only at hSw); go_simp; all_goals with_reducible rfl)
                (try simp only [Act.put, List.setIfInBounds_toArray, List.set_cons_zero, List.set_cons_succ])
                refine wpAnyH_ready (rs := [12]) (by kernel_rfl) (by simp) ?_
                refine (AllReadyH.cons (by rw [List.getElem?_toArray]; rfl) (fun K hK => ?_) AllReadyH.nil)
                go_simp
                clear n0 n1 n2 n3 n4 y0 y1 y2 y3 y4 y5 y6 y7 y8 y9 y10; (have bb : But j6 v5 (((((v5.setCell ⟨j6, 0, none⟩ (.int .i64 nx)).setCell ⟨j6, 1, none⟩ (.int .i64 x1)).setCell ⟨j6, 2, none⟩ (.int .i64 x2)).setCell ⟨j6, 3, none⟩ (.string x3)).setCell ⟨j6, 4, none⟩ (.int .i64 x4)) := put5z_but _ _ _ _ _ _ _); (have cc : CurOk (((((v5.setCell ⟨j6, 0, none⟩ (.int .i64 nx)).setCell ⟨j6, 1, none⟩ (.int .i64 x1)).setCell ⟨j6, 2, none⟩ (.int .i64 x2)).setCell ⟨j6, 3, none⟩ (.string x3)).setCell ⟨j6, 4, none⟩ (.int .i64 x4)) B p := CurOk.put5 T.2.2.1 h6p (by omega) _ _ _ _ _); (replace T := T.other bb cc h6t hbt H6); (replace X : F5 (((((v5.setCell ⟨j6, 0, none⟩ (.int .i64 nx)).setCell ⟨j6, 1, none⟩ (.int .i64 x1)).setCell ⟨j6, 2, none⟩ (.int .i64 x2)).setCell ⟨j6, 3, none⟩ (.string x3)).setCell ⟨j6, 4, none⟩ (.int .i64 x4)) j6 nx x1 x2 x3 x4 := X.set5 _ _ _ _ _); clear bb cc; generalize (((((v5.setCell ⟨j6, 0, none⟩ (.int .i64 nx)).setCell ⟨j6, 1, none⟩ (.int .i64 x1)).setCell ⟨j6, 2, none⟩ (.int .i64 x2)).setCell ⟨j6, 3, none⟩ (.string x3)).setCell ⟨j6, 4, none⟩ (.int .i64 x4)) = v6 at *; (obtain ⟨n0, n1, n2, n3, n4⟩ := id T.1); (obtain ⟨y0, y1, y2, y3, y4, y5, y6, y7, y8, y9, y10⟩ := id X)
                refine hK.out _ _ ?_ (fun hHeld => ?_)
                · first | exact n1 | (simp (maxDischargeDepth := 6) [go_sem, *]; done)
                clear hK K
                (try simp only [Act.put, List.setIfInBounds_toArray, List.set_cons_zero, List.set_cons_succ])
                refine wpAnyH_done (by kernel_rfl) ?_ _
                (try go_wp2_with fail)
                go_meet
                case rel => exact ⟨j6, x1, x2, x3, x4, rfl, h6t, h6p, x3s, X, T⟩
            · go_simp
              clear n0 n1 n2 n3 n4; (have bb := Below.nw v1 (.cells #[.int .i64 0, .int .i64 0, .int .i64 0, .string ⟨#[]⟩, .int .i64 0] 30)); (have X := F5.new v1 0 0 0 ⟨#[]⟩ 0 30); (have h6t : bt < v1.heap.size := T.1.1); (have h6p : v1.heap.size ≠ p := by omega); (have H6 : ∀ g, (Value.slice A n c).ownBlock = some g → g ≠ v1.heap.size := fun g hg => by have := (World.ownsRow.lt T.2.1 g hg).2; omega); (replace T := T.below bb); clear bb; generalize v1.heap.size = j6 at *; generalize v1.alloc (.cells #[.int .i64 0, .int .i64 0, .int .i64 0, .string ⟨#[]⟩, .int .i64 0] 30) = v2 at *; (obtain ⟨n0, n1, n2, n3, n4⟩ := id T.1); (obtain ⟨y0, y1, y2, y3, y4, y5, y6, y7, y8, y9, y10⟩ := id X)
              refine hK.out _ _ ?_ (fun hHeld => ?_)
              · first | exact n1 | (simp (maxDischargeDepth := 6) [go_sem, *]; done)
              clear hK K
              (try simp only [Act.put, List.setIfInBounds_toArray, List.set_cons_zero, List.set_cons_succ])
              refine wpAnyH_ready (rs := [5]) (by kernel_rfl) (by simp) ?_
              refine (AllReadyH.cons (by rw [List.getElem?_toArray]; rfl) (fun K hK => ?_) AllReadyH.nil)
              go_simp
              refine (l1Below_any B p 4 _ T.2.2.1).mono ?_; rintro e v3 ⟨x2, rfl, x2l, x2h, _, _, cc, bb⟩; clear n0 n1 n2 n3 n4 y0 y1 y2 y3 y4 y5 y6 y7 y8 y9 y10; (replace T := T.but cc bb hp hbt); (replace X := X.but bb h6p); clear cc bb; (obtain ⟨n0, n1, n2, n3, n4⟩ := id T.1); (obtain ⟨y0, y1, y2, y3, y4, y5, y6, y7, y8, y9, y10⟩ := id X)
              (try go_wp2_with fail)
              refine hK.out _ _ ?_ (fun hHeld => ?_)
              · first | exact n1 | (simp (maxDischargeDepth := 6) [go_sem, *]; done)
              clear hK K
              (try simp only [Act.put, List.setIfInBounds_toArray, List.set_cons_zero, List.set_cons_succ])
              refine wpAnyH_ready (rs := [7]) (by kernel_rfl) (by simp) ?_
              refine (AllReadyH.cons (by rw [List.getElem?_toArray]; rfl) (fun K hK => ?_) AllReadyH.nil)
              go_simp
              refine (l4DrawBody_any B p 4 _ T.2.2.1 (by omega) (by omega)).mono ?_; rintro e v4 ⟨x3, rfl, x3s, cc, bb⟩; clear n0 n1 n2 n3 n4 y0 y1 y2 y3 y4 y5 y6 y7 y8 y9 y10; (replace T := T.but cc bb hp hbt); (replace X := X.but bb h6p); clear cc bb; (obtain ⟨n0, n1, n2, n3, n4⟩ := id T.1); (obtain ⟨y0, y1, y2, y3, y4, y5, y6, y7, y8, y9, y10⟩ := id X)
              (try go_wp2_with fail)
              refine hK.out _ _ ?_ (fun hHeld => ?_)
              · first | exact n1 | (simp (maxDischargeDepth := 6) [go_sem, *]; done)
              clear hK K
              (try simp only [Act.put, List.setIfInBounds_toArray, List.set_cons_zero, List.set_cons_succ])
              refine wpAnyH_ready (rs := [9]) (by kernel_rfl) (by simp) ?_
              refine (AllReadyH.cons (by rw [List.getElem?_toArray]; rfl) (fun K hK => ?_) AllReadyH.nil)
              go_simp
              refine (l1Below_any B p 90 _ T.2.2.1).mono ?_; rintro e v5 ⟨x4, rfl, x4l, x4h, _, _, cc, bb⟩; clear n0 n1 n2 n3 n4 y0 y1 y2 y3 y4 y5 y6 y7 y8 y9 y10; (replace T := T.but cc bb hp hbt); (replace X := X.but bb h6p); clear cc bb; (obtain ⟨n0, n1, n2, n3, n4⟩ := id T.1); (obtain ⟨y0, y1, y2, y3, y4, y5, y6, y7, y8, y9, y10⟩ := id X)
              (try go_wp2_with fail)
              refine hK.out _ _ ?_ (fun hHeld => ?_)
              · first | exact n1 | (simp (maxDischargeDepth := 6) [go_sem, *]; done)
              clear hK K
              (try simp only [Act.put, List.setIfInBounds_toArray, List.set_cons_zero, List.set_cons_succ])
              refine wpAnyH_take (i := 10) (v := ?_) (by rw [List.getElem?_toArray]; rfl) (by kernel_rfl) (by kernel_rfl) (by kernel_rfl) (by intro _ _ _ h; exact h) (Or.inl ⟨by rfl, ?_⟩) (by assumption) ?_
              rotate_left
              · (intro w hSw; (try dsimp only at hSw); go_simp; all_goals with_reducible rfl)
              (try simp only [Act.put, List.setIfInBounds_toArray, List.set_cons_zero, List.set_cons_succ])
              refine wpAnyH_ready (rs := [12]) (by kernel_rfl) (by simp) ?_
              refine (AllReadyH.cons (by rw [List.getElem?_toArray]; rfl) (fun K hK => ?_) AllReadyH.nil)
              go_simp
              clear n0 n1 n2 n3 n4 y0 y1 y2 y3 y4 y5 y6 y7 y8 y9 y10; (have bb : But j6 v5 (((((v5.setCell ⟨j6, 0, none⟩ (.int .i64 nx)).setCell ⟨j6, 1, none⟩ (.int .i64 x1)).setCell ⟨j6, 2, none⟩ (.int .i64 x2)).setCell ⟨j6, 3, none⟩ (.string x3)).setCell ⟨j6, 4, none⟩ (.int .i64 x4)) := put5z_but _ _ _ _ _ _ _); (have cc : CurOk (((((v5.setCell ⟨j6, 0, none⟩ (.int .i64 nx)).setCell ⟨j6, 1, none⟩ (.int .i64 x1)).setCell ⟨j6, 2, none⟩ (.int .i64 x2)).setCell ⟨j6, 3, none⟩ (.string x3)).setCell ⟨j6, 4, none⟩ (.int .i64 x4)) B p := CurOk.put5 T.2.2.1 h6p (by omega) _ _ _ _ _); (replace T := T.other bb cc h6t hbt H6); (replace X : F5 (((((v5.setCell ⟨j6, 0, none⟩ (.int .i64 nx)).setCell ⟨j6, 1, none⟩ (.int .i64 x1)).setCell ⟨j6, 2, none⟩ (.int .i64 x2)).setCell ⟨j6, 3, none⟩ (.string x3)).setCell ⟨j6, 4, none⟩ (.int .i64 x4)) j6 nx x1 x2 x3 x4 := X.set5 _ _ _ _ _); clear bb cc; generalize (((((v5.setCell ⟨j6, 0, none⟩ (.int .i64 nx)).setCell ⟨j6, 1, none⟩ (.int .i64 x1)).setCell ⟨j6, 2, none⟩ (.int .i64 x2)).setCell ⟨j6, 3, none⟩ (.string x3)).setCell ⟨j6, 4, none⟩ (.int .i64 x4)) = v6 at *; (obtain ⟨n0, n1, n2, n3, n4⟩ := id T.1); (obtain ⟨y0, y1, y2, y3, y4, y5, y6, y7, y8, y9, y10⟩ := id X)
              refine hK.out _ _ ?_ (fun hHeld => ?_)
              · first | exact n1 | (simp (maxDischargeDepth := 6) [go_sem, *]; done)
              clear hK K
              (try simp only [Act.put, List.setIfInBounds_toArray, List.set_cons_zero, List.set_cons_succ])
              refine wpAnyH_done (by kernel_rfl) ?_ _
              (try go_wp2_with fail)
              go_meet
              case rel => exact ⟨j6, x1, x2, x3, x4, rfl, h6t, h6p, x3s, X, T⟩
          · go_simp
            clear n0 n1 n2 n3 n4; (have bb := Below.nw v (.cells #[.int .i64 0, .int .i64 0, .int .i64 0, .string ⟨#[]⟩, .int .i64 0] 30)); (have X := F5.new v 0 0 0 ⟨#[]⟩ 0 30); (have h6t : bt < v.heap.size := T.1.1); (have h6p : v.heap.size ≠ p := by omega); (have H6 : ∀ g, (Value.slice A n c).ownBlock = some g → g ≠ v.heap.size := fun g hg => by have := (World.ownsRow.lt T.2.1 g hg).2; omega); (replace T := T.below bb); clear bb; generalize v.heap.size = j6 at *; generalize v.alloc (.cells #[.int .i64 0, .int .i64 0, .int .i64 0, .string ⟨#[]⟩, .int .i64 0] 30) = v1 at *; (obtain ⟨n0, n1, n2, n3, n4⟩ := id T.1); (obtain ⟨y0, y1, y2, y3, y4, y5, y6, y7, y8, y9, y10⟩ := id X)
            refine hK.out _ _ ?_ (fun hHeld => ?_)
            · first | exact n1 | (simp (maxDischargeDepth := 6) [go_sem, *]; done)
            clear hK K
            (try simp only [Act.put, List.setIfInBounds_toArray, List.set_cons_zero, List.set_cons_succ])
            refine wpAnyH_ready (rs := [3]) (by kernel_rfl) (by simp) ?_
            refine (AllReadyH.cons (by rw [List.getElem?_toArray]; rfl) (fun K hK => ?_) AllReadyH.nil)
            go_simp
            refine (l1Below_any B p 8 _ T.2.2.1).mono ?_; rintro e v2 ⟨x1, rfl, x1l, x1h, _, _, cc, bb⟩; clear n0 n1 n2 n3 n4 y0 y1 y2 y3 y4 y5 y6 y7 y8 y9 y10; (replace T := T.but cc bb hp hbt); (replace X := X.but bb h6p); clear cc bb; (obtain ⟨n0, n1, n2, n3, n4⟩ := id T.1); (obtain ⟨y0, y1, y2, y3, y4, y5, y6, y7, y8, y9, y10⟩ := id X)
            (try go_wp2_with fail)
            refine hK.out _ _ ?_ (fun hHeld => ?_)
            · first | exact n1 | (simp (maxDischargeDepth := 6) [go_sem, *]; done)
            clear hK K
            (try simp only [Act.put, List.setIfInBounds_toArray, List.set_cons_zero, List.set_cons_succ])
            refine wpAnyH_ready (rs := [5]) (by kernel_rfl) (by simp) ?_
            refine (AllReadyH.cons (by rw [List.getElem?_toArray]; rfl) (fun K hK => ?_) AllReadyH.nil)
            go_simp
            refine (l1Below_any B p 4 _ T.2.2.1).mono ?_; rintro e v3 ⟨x2, rfl, x2l, x2h, _, _, cc, bb⟩; clear n0 n1 n2 n3 n4 y0 y1 y2 y3 y4 y5 y6 y7 y8 y9 y10; (replace T := T.but cc bb hp hbt); (replace X := X.but bb h6p); clear cc bb; (obtain ⟨n0, n1, n2, n3, n4⟩ := id T.1); (obtain ⟨y0, y1, y2, y3, y4, y5, y6, y7, y8, y9, y10⟩ := id X)
            (try go_wp2_with fail)
            refine hK.out _ _ ?_ (fun hHeld => ?_)
            · first | exact n1 | (simp (maxDischargeDepth := 6) [go_sem, *]; done)
            clear hK K
            (try simp only [Act.put, List.setIfInBounds_toArray, List.set_cons_zero, List.set_cons_succ])
            refine wpAnyH_ready (rs := [7]) (by kernel_rfl) (by simp) ?_
            refine (AllReadyH.cons (by rw [List.getElem?_toArray]; rfl) (fun K hK => ?_) AllReadyH.nil)
            go_simp
            refine (l4DrawBody_any B p 4 _ T.2.2.1 (by omega) (by omega)).mono ?_; rintro e v4 ⟨x3, rfl, x3s, cc, bb⟩; clear n0 n1 n2 n3 n4 y0 y1 y2 y3 y4 y5 y6 y7 y8 y9 y10; (replace T := T.but cc bb hp hbt); (replace X := X.but bb h6p); clear cc bb; (obtain ⟨n0, n1, n2, n3, n4⟩ := id T.1); (obtain ⟨y0, y1, y2, y3, y4, y5, y6, y7, y8, y9, y10⟩ := id X)
            (try go_wp2_with fail)
            refine hK.out _ _ ?_ (fun hHeld => ?_)
            · first | exact n1 | (simp (maxDischargeDepth := 6) [go_sem, *]; done)
            clear hK K
            (try simp only [Act.put, List.setIfInBounds_toArray, List.set_cons_zero, List.set_cons_succ])
            refine wpAnyH_ready (rs := [9]) (by kernel_rfl) (by simp) ?_
            refine (AllReadyH.cons (by rw [List.getElem?_toArray]; rfl) (fun K hK => ?_) AllReadyH.nil)
            go_simp
            refine (l1Below_any B p 90 _ T.2.2.1).mono ?_; rintro e v5 ⟨x4, rfl, x4l, x4h, _, _, cc, bb⟩; clear n0 n1 n2 n3 n4 y0 y1 y2 y3 y4 y5 y6 y7 y8 y9 y10; (replace T := T.but cc bb hp hbt); (replace X := X.but bb h6p); clear cc bb; (obtain ⟨n0, n1, n2, n3, n4⟩ := id T.1); (obtain ⟨y0, y1, y2, y3, y4, y5, y6, y7, y8, y9, y10⟩ := id X)
            (try go_wp2_with fail)
            refine hK.out _ _ ?_ (fun hHeld => ?_)
            · first | exact n1 | (simp (maxDischargeDepth := 6) [go_sem, *]; done)
            clear hK K
            (try simp only [Act.put, List.setIfInBounds_toArray, List.set_cons_zero, List.set_cons_succ])
            refine wpAnyH_take (i := 10) (v := ?_) (by rw [List.getElem?_toArray]; rfl) (by kernel_rfl) (by kernel_rfl) (by kernel_rfl) (by intro _ _ _ h; exact h) (Or.inl ⟨by rfl, ?_⟩) (by assumption) ?_
            rotate_left
            · (intro w hSw; (try dsimp only at hSw); go_simp; all_goals with_reducible rfl)
            (try simp only [Act.put, List.setIfInBounds_toArray, List.set_cons_zero, List.set_cons_succ])
            refine wpAnyH_ready (rs := [12]) (by kernel_rfl) (by simp) ?_
            refine (AllReadyH.cons (by rw [List.getElem?_toArray]; rfl) (fun K hK => ?_) AllReadyH.nil)
            go_simp
            clear n0 n1 n2 n3 n4 y0 y1 y2 y3 y4 y5 y6 y7 y8 y9 y10; (have bb : But j6 v5 (((((v5.setCell ⟨j6, 0, none⟩ (.int .i64 nx)).setCell ⟨j6, 1, none⟩ (.int .i64 x1)).setCell ⟨j6, 2, none⟩ (.int .i64 x2)).setCell ⟨j6, 3, none⟩ (.string x3)).setCell ⟨j6, 4, none⟩ (.int .i64 x4)) := put5z_but _ _ _ _ _ _ _); (have cc : CurOk (((((v5.setCell ⟨j6, 0, none⟩ (.int .i64 nx)).setCell ⟨j6, 1, none⟩ (.int .i64 x1)).setCell ⟨j6, 2, none⟩ (.int .i64 x2)).setCell ⟨j6, 3, none⟩ (.string x3)).setCell ⟨j6, 4, none⟩ (.int .i64 x4)) B p := CurOk.put5 T.2.2.1 h6p (by omega) _ _ _ _ _); (replace T := T.other bb cc h6t hbt H6); (replace X : F5 (((((v5.setCell ⟨j6, 0, none⟩ (.int .i64 nx)).setCell ⟨j6, 1, none⟩ (.int .i64 x1)).setCell ⟨j6, 2, none⟩ (.int .i64 x2)).setCell ⟨j6, 3, none⟩ (.string x3)).setCell ⟨j6, 4, none⟩ (.int .i64 x4)) j6 nx x1 x2 x3 x4 := X.set5 _ _ _ _ _); clear bb cc; generalize (((((v5.setCell ⟨j6, 0, none⟩ (.int .i64 nx)).setCell ⟨j6, 1, none⟩ (.int .i64 x1)).setCell ⟨j6, 2, none⟩ (.int .i64 x2)).setCell ⟨j6, 3, none⟩ (.string x3)).setCell ⟨j6, 4, none⟩ (.int .i64 x4)) = v6 at *; (obtain ⟨n0, n1, n2, n3, n4⟩ := id T.1); (obtain ⟨y0, y1, y2, y3, y4, y5, y6, y7, y8, y9, y10⟩ := id X)
            refine hK.out _ _ ?_ (fun hHeld => ?_)
            · first | exact n1 | (simp (maxDischargeDepth := 6) [go_sem, *]; done)
            clear hK K
            (try simp only [Act.put, List.setIfInBounds_toArray, List.set_cons_zero, List.set_cons_succ])
            refine wpAnyH_done (by kernel_rfl) ?_ _
            (try go_wp2_with fail)
            go_meet
            case rel => exact ⟨j6, x1, x2, x3, x4, rfl, h6t, h6p, x3s, X, T⟩
        case rest =>
          obtain ⟨j6, x1, x2, x3, x4, rfl, h6t, h6p, x3s, X, T1⟩ := hcut
          clear T n0 n1 n2 n3 n4
          have own1 := World.ownsRow.alloc T1.2.1 (.cells #[.int .i64 nx, .int .i64 x1, .int .i64 x2, .string x3, .int .i64 x4] 30)
          have A6 := Below.nw wc (.cells #[.int .i64 nx, .int .i64 x1, .int .i64 x2, .string x3, .int .i64 x4] 30)
          have T2 := T1.below A6
          have HN2 : Hid (∀ j u, [Value.int .i64 nx, .int .i64 x1, .int .i64 x2, .string x3, .int .i64 x4][j]? = some u → (wc.alloc (.cells #[.int .i64 nx, .int .i64 x1, .int .i64 x2, .string x3, .int .i64 x4] 30)).cell? ((⟨wc.heap.size, 0, none⟩ : Addr).add j) = some u) := fun j u hu => five_at wc nx x1 x2 x3 x4 30 j u hu
          have hs6 : w.heap.size + 1 ≤ (wc.alloc (.cells #[.int .i64 nx, .int .i64 x1, .int .i64 x2, .string x3, .int .i64 x4] 30)).heap.size := by have := A6.size; have := T1.1.1; omega
          obtain ⟨n0, n1, n2, n3, n4⟩ := id T1.1
          obtain ⟨y0, y1, y2, y3, y4, y5, y6, y7, y8, y9, y10⟩ := id X
          go_wp2_with (at_builtin; refine wpList_append_new rfl _ _ 24 rfl (w.heap.size + 1) 30 i0 (.agg #[.int .i64 0, .int .i64 0, .int .i64 0, .string ⟨#[]⟩, .int .i64 0]) 5 48 Try.underlying24 hi hz0 hz1 hz2 rfl (by decide) _ _ _ rfl own1 ⟨wc.heap.size, 0, none⟩ 1 1 [.int .i64 nx, .int .i64 x1, .int .i64 x2, .string x3, .int .i64 x4] rfl rfl HN2.out (five_one _ _ _ _ _) ?c3 ?c4 ?c5 ?_)
          case c3 => unfold maxLen; omega
          case c4 => omega
          case c5 => exact hs6
          intro vq wq hown2 hgrow hfr
          have hown3 : wq.ownsRow (w.heap.size + 1) 30 5 vq (n + 1) (frow (insG M n (fT nx x1 x2 x3 x4)) (n + 1)) := (by have q := hown2; rw [frow_ins1 (fT nx x1 x2 x3 x4) rfl] at q; exact q)
          obtain ⟨a3, c3, rfl, _, _, _⟩ := ownF_src hown3
          have hk2 : fwf (insG M n (fT nx x1 x2 x3 x4)) (n + 1) := fwf_add hk (wf_small5 (x := nx) ⟨by omega, by omega⟩) x3s
          have T3 := T2.grow hp hB hbt hgrow hown3 (fun g hg => (hfr g hg).imp id (fun q => by simpa using q))
          have KQ := T2.1.keptG hgrow (fun e => T2.2.2.2.2.2 bt e.symm rfl)
          generalize insG M n (fT nx x1 x2 x3 x4) = M2 at *
          clear n0 n1 n2 n3 n4 y0 y1 y2 y3 y4 y5 y6 y7 y8 y9 y10 hown2 hgrow hfr own1 HN2 hown3 A6 T1 T2 X hs6 h6t h6p hk
          obtain ⟨n0, n1, n2, n3, n4⟩ := id KQ
          go_upto_region 10 with fail
          clear n0 n1 n2 n3 n4 KQ
          generalize wq.setCell ⟨bt, 1, none⟩ (.slice a3 (n + 1) c3) = v7 at *
          obtain ⟨n0, n1, n2, n3, n4⟩ := id T3.1
          refine wp_region_held_drew (S := (fun _ => True)) (by kernel_rfl) ?_ (fun hHeld => ?_)
          · trivial
          clear n0 n1 n2 n3 n4
          replace T3 := T3.drew
          generalize v7.drew = v7 at *
          (obtain ⟨n0, n1, n2, n3, n4⟩ := id T3.1)
          refine wpAnyH_take (i := 0) (v := ?_) (by rw [List.getElem?_toArray]; rfl) (by kernel_rfl) (by kernel_rfl) (by kernel_rfl) (by intro _ _ _ h; exact h) (Or.inl ⟨by rfl, ?_⟩) (by assumption) ?_
          rotate_left
          · (intro w hSw; (try dsimp only at hSw); go_simp; all_goals with_reducible rfl)
          (try simp only [Act.put, List.setIfInBounds_toArray, List.set_cons_zero, List.set_cons_succ])
          refine wpAnyH_take (i := 3) (v := ?_) (by rw [List.getElem?_toArray]; rfl) (by kernel_rfl) (by kernel_rfl) (by kernel_rfl) (by intro _ _ _ h; exact h) (Or.inl ⟨by rfl, ?_⟩) (by assumption) ?_
          rotate_left
          · (intro w hSw; (try dsimp only at hSw); go_simp; all_goals with_reducible rfl)
          (try simp only [Act.put, List.setIfInBounds_toArray, List.set_cons_zero, List.set_cons_succ])
          refine wpAnyH_ready (rs := [1, 4]) (by kernel_rfl) (by simp) ?_
          refine (AllReadyH.cons (by rw [List.getElem?_toArray]; rfl) (fun K hK => ?_) (AllReadyH.cons (by rw [List.getElem?_toArray]; rfl) (fun K hK => ?_) AllReadyH.nil))
          · go_simp
            refine hK.out _ _ ?_ (fun hHeld => ?_)
            · trivial
            clear hK K
            (try simp only [Act.put, List.setIfInBounds_toArray, List.set_cons_zero, List.set_cons_succ])
            refine wpAnyH_take (i := 2) (v := ?_) (by rw [List.getElem?_toArray]; rfl) (by kernel_rfl) (by kernel_rfl) (by kernel_rfl) (by intro _ _ _ h; exact h) (Or.inl ⟨by rfl, ?_⟩) (by assumption) ?_
            rotate_left
            · (intro w hSw; (try dsimp only at hSw); go_simp; all_goals with_reducible rfl)
            (try simp only [Act.put, List.setIfInBounds_toArray, List.set_cons_zero, List.set_cons_succ])
            refine wpAnyH_ready (rs := [4]) (by kernel_rfl) (by simp) ?_
            refine (AllReadyH.cons (by rw [List.getElem?_toArray]; rfl) (fun K hK => ?_) AllReadyH.nil)
            go_simp
            refine (l1Below_any B p 2 _ T3.2.2.1).mono ?_; rintro e v8 ⟨z, rfl, zl, zh, zp, zz, cc, bb⟩; (have hz := zp (by omega)); clear n0 n1 n2 n3 n4 zp zz zh; (replace T3 := T3.but cc bb hp hbt); clear cc bb; (obtain ⟨n0, n1, n2, n3, n4⟩ := id T3.1)
            (try go_wp2_with fail)
            refine hK.out _ _ ?_ (fun hHeld => ?_)
            · trivial
            clear hK K
            (try simp only [Act.put, List.setIfInBounds_toArray, List.set_cons_zero, List.set_cons_succ])
            refine wpAnyH_take (i := 5) (v := ?_) (by rw [List.getElem?_toArray]; rfl) (by kernel_rfl) (by kernel_rfl) (by kernel_rfl) (by intro _ _ _ h; exact h) (Or.inl ⟨by rfl, ?_⟩) (by assumption) ?_
            rotate_left
            · (intro w hSw; (try dsimp only at hSw); go_simp; all_goals with_reducible rfl)
            (try simp only [Act.put, List.setIfInBounds_toArray, List.set_cons_zero, List.set_cons_succ])
            refine wpAnyH_take (i := 6) (v := ?_) (by rw [List.getElem?_toArray]; rfl) (by kernel_rfl) (by kernel_rfl) (by kernel_rfl) (by intro _ _ _ h; exact h) (Or.inl ⟨by rfl, ?_⟩) (by assumption) ?_
            rotate_left
            · (intro w hSw; (try dsimp only at hSw); go_simp; all_goals with_reducible rfl)
            (try simp only [Act.put, List.setIfInBounds_toArray, List.set_cons_zero, List.set_cons_succ])
            refine wpAnyH_ready (rs := [7]) (by kernel_rfl) (by simp) ?_
            refine (AllReadyH.cons (by rw [List.getElem?_toArray]; rfl) (fun K hK => ?_) AllReadyH.nil)
            go_simp
            refine hK.out _ _ ?_ (fun hHeld => ?_)
            · trivial
            clear hK K
            (try simp only [Act.put, List.setIfInBounds_toArray, List.set_cons_zero, List.set_cons_succ])
            refine wpAnyH_done (by kernel_rfl) ?_ _
            have T4 := T3.next hp hB hbt (nx + 1 + z)
            clear n0 n1 n2 n3 n4 T3
            (try go_wp2_with fail)
            go_roundw
            case rel => exact ⟨nx + 1 + z, a3, n + 1, c3, _, by go_num, by omega, by omega, by omega, hk2, T4⟩
            case measure => simp [intOf]; omega
          · go_simp
            refine (l1Below_any B p 2 _ T3.2.2.1).mono ?_; rintro e v8 ⟨z, rfl, zl, zh, zp, zz, cc, bb⟩; (have hz := zp (by omega)); clear n0 n1 n2 n3 n4 zp zz zh; (replace T3 := T3.but cc bb hp hbt); clear cc bb; (obtain ⟨n0, n1, n2, n3, n4⟩ := id T3.1)
            (try go_wp2_with fail)
            refine hK.out _ _ ?_ (fun hHeld => ?_)
            · trivial
            clear hK K
            (try simp only [Act.put, List.setIfInBounds_toArray, List.set_cons_zero, List.set_cons_succ])
            refine wpAnyH_ready (rs := [1]) (by kernel_rfl) (by simp) ?_
            refine (AllReadyH.cons (by rw [List.getElem?_toArray]; rfl) (fun K hK => ?_) AllReadyH.nil)
            go_simp
            refine hK.out _ _ ?_ (fun hHeld => ?_)
            · trivial
            clear hK K
            (try simp only [Act.put, List.setIfInBounds_toArray, List.set_cons_zero, List.set_cons_succ])
            refine wpAnyH_take (i := 2) (v := ?_) (by rw [List.getElem?_toArray]; rfl) (by kernel_rfl) (by kernel_rfl) (by kernel_rfl) (by intro _ _ _ h; exact h) (Or.inl ⟨by rfl, ?_⟩) (by assumption) ?_
            rotate_left
            · (intro w hSw; (try dsimp only at hSw); go_simp; all_goals with_reducible rfl)
            (try simp only [Act.put, List.setIfInBounds_toArray, List.set_cons_zero, List.set_cons_succ])
            refine wpAnyH_take (i := 5) (v := ?_) (by rw [List.getElem?_toArray]; rfl) (by kernel_rfl) (by kernel_rfl) (by kernel_rfl) (by intro _ _ _ h; exact h) (Or.inl ⟨by rfl, ?_⟩) (by assumption) ?_
            rotate_left
            · (intro w hSw; (try dsimp only at hSw); go_simp; all_goals with_reducible rfl)
            (try simp only [Act.put, List.setIfInBounds_toArray, List.set_cons_zero, List.set_cons_succ])
            refine wpAnyH_take (i := 6) (v := ?_) (by rw [List.getElem?_toArray]; rfl) (by kernel_rfl) (by kernel_rfl) (by kernel_rfl) (by intro _ _ _ h; exact h) (Or.inl ⟨by rfl, ?_⟩) (by assumption) ?_
            rotate_left
            · (intro w hSw; (try dsimp only at hSw); go_simp; all_goals with_reducible rfl)
            (try simp only [Act.put, List.setIfInBounds_toArray, List.set_cons_zero, List.set_cons_succ])
            refine wpAnyH_ready (rs := [7]) (by kernel_rfl) (by simp) ?_
            refine (AllReadyH.cons (by rw [List.getElem?_toArray]; rfl) (fun K hK => ?_) AllReadyH.nil)
            go_simp
            refine hK.out _ _ ?_ (fun hHeld => ?_)
            · trivial
            clear hK K
            (try simp only [Act.put, List.setIfInBounds_toArray, List.set_cons_zero, List.set_cons_succ])
            refine wpAnyH_done (by kernel_rfl) ?_ _
            have T4 := T3.next hp hB hbt (nx + 1 + z)
            clear n0 n1 n2 n3 n4 T3
            (try go_wp2_with fail)
            go_roundw
            case rel => exact ⟨nx + 1 + z, a3, n + 1, c3, _, by go_num, by omega, by omega, by omega, hk2, T4⟩
            case measure => simp [intOf]; omega
      · obtain ⟨n0, n1, n2, n3, n4⟩ := id T.1
        go_wp2_with fail
        refine (l1Once_any B p 15 _ T.2.2.1).mono ?_
        rintro e v1 ⟨oo, rfl, cc, bb⟩
        replace T := T.but cc bb hp hbt
        clear cc bb n0 n1 n2 n3 n4
        cases oo
        · obtain ⟨n0, n1, n2, n3, n4⟩ := id T.1
          obtain ⟨r0, r1, r2, r3, r4⟩ := id T.2.2.2.2.1
          go_wp2_with fail
          exact bodyPost_ret (v := .agg #[.int .i64 nx, .slice A n c]) (by simp (maxDischargeDepth := 6) [results, Try.results57, go_sem, *]) rfl ⟨nx, A, n, c, M, rfl, ⟨by omega, by omega⟩, by omega, hk, T.result hp hB⟩
        · have T2 := T.next hp hB hbt 1000000
          obtain ⟨n0, n1, n2, n3, n4⟩ := id T.1
          go_upto_region 13 with fail
          clear n0 n1 n2 n3 n4 T
          generalize v1.setCell ⟨bt, 0, none⟩ (.int .i64 1000000) = v2 at *
          obtain ⟨n0, n1, n2, n3, n4⟩ := id T2.1
          obtain ⟨r0, r1, r2, r3, r4⟩ := id T2.2.2.2.2.1
          go_wp2_with fail
          exact bodyPost_ret (v := .agg #[.int .i64 1000000, .slice A n c]) (by simp (maxDischargeDepth := 6) [results, Try.results57, go_sem, *]) rfl ⟨1000000, A, n, c, M, rfl, ⟨by omega, by omega⟩, by omega, hk, T2.result hp hB⟩
end Go.Proofs.Ytgfhcilhibbooaa
