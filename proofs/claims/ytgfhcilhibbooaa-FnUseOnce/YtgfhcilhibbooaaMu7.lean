/- What the draw of any table leaves. What the draw of a nonce leaves. What the draw of a table, a nonce and a sender leaves. What Use tells, in one statement for each side. Use of a table whose list may be nil. Contracts of Waits. What is left when an ask is used; laws.sameAsks. What the draws of chapter 2 leave: a drift, a count. -/
import Derived.Test.YtgfhcilhibbooaaMu6
import Derived.Deep.RegionHeld3
import Derived.Deep.DeepCutAuto
import Derived.WalkKit
import Derived.WalkSpells
import Derived.WalkLawsBesides
import Derived.Deep.RegionHeld
import Derived.Test.YtgfhcilhibbooaaMu5
import Derived.Test.YtgfhcilhibbooaaMu3
import Derived.Test.YtgfhcilhibbooaaMu4
import Derived.Test.YtgfhcilhibbooaaMu1
import Derived.Deep.QuietTactic
import Derived.BigQuiet
namespace Go.Proofs.Ytgfhcilhibbooaa
open Go.RowKit
set_option linter.unusedVariables false
theorem CurOk.belB7 {w w' : World} {B p base : Nat} (h : CurOk w B p) (hb : Below base w w') (hp : p < base) : CurOk w' B p := by
  obtain ⟨a, n, c, i, hh, h0, h1, h2, f0, f1, f2, hi, hn, hc, hB, hpw⟩ := h
  refine ⟨a, n, c, i, hh, ?_, ?_, ?_, ?_, ?_, ?_, hi, hn, hc.below (hb.mono (by omega)), hB, Nat.lt_of_lt_of_le hpw hb.size⟩
  · rw [hb.cell (p := ⟨p, 0, none⟩) hp]; exact h0
  · rw [hb.cell (p := ⟨p, 1, none⟩) hp]; exact h1
  · rw [hb.cell (p := ⟨p, 2, none⟩) hp]; exact h2
  · rw [hb.frozen (p := ⟨p, 0, none⟩) hp]; exact f0
  · rw [hb.frozen (p := ⟨p, 1, none⟩) hp]; exact f1
  · rw [hb.frozen (p := ⟨p, 2, none⟩) hp]; exact f2
theorem But.then7 {p : Nat} {a w w' : World} (h : But p a w) (hb : Below a.heap.size w w') : But p a w' :=
  ⟨hb.os.trans h.1, hb.tape.trans h.2.1, hb.output.trans h.2.2.1, Nat.le_trans h.2.2.2.1 hb.size, fun k hk hp => (hb.block k hk).trans (h.2.2.2.2 k hk hp)⟩
theorem pickIn7 (B p : Nat) (w : World) (L : List Int) (hcur : CurOk w B p) (h0 : 0 < L.length) (h1 : L.length ≤ 100) :
    Calls Try.prog 48 #[.pointer (some ⟨p, 0, none⟩), .slice (some ⟨w.heap.size, 0, none⟩) L.length L.length] (w.alloc (.cells (L.map (Value.int .i64)).toArray 3)) fun e w' => ∃ v : Int, e = .returned (.int .i64 v) ∧ v ∈ L ∧ CurOk w' B p ∧ But p w w' := by
  have hb : Below w.heap.size w (w.alloc (.cells (L.map (Value.int .i64)).toArray 3)) := (Below.refl _ _).alloc (Nat.le_refl _) _
  have hl := hcur.lt
  refine (l1PickInt_any B p w.heap.size 0 L.length L.length _ (hcur.below hb) h0 h1 (by simp) (by omega) (fun j hj => ⟨L[j], by simp [hj]⟩)).mono ?_
  rintro e w' ⟨j, v, hj, hv, rfl, hc, hw⟩
  refine ⟨v, rfl, ?_, hc, (But.of_below hb).trans hw⟩
  simp [hj] at hv
  rw [← hv]
  exact List.getElem_mem hj
/- The table's row takes an ask more. -/
theorem Tw.kept {w0 w w' : World} {B p bt : Nat} {ep us : Int} {A : Option Addr} {n c : Nat} {M : Nat → KT} (h : Tw w0 B p bt w ep us A n c M) (hp : p < w0.heap.size) (hbt : w0.heap.size < bt) (hg : w.grownBy w' (Value.slice A n c).ownBlock) (H : ∀ g, (Value.slice A n c).ownBlock = some g → g ≠ bt) : Bx3 w' bt (.int .i64 ep) (.int .i64 us) (.slice A n c) ∧ Bx3 w' w0.heap.size (.int .i64 0) (.int .i64 0) (.slice none 0 0) ∧ CurOk w' B p ∧ But p w0 w' := by
  have hs : w0.heap.size + 1 ≤ w.heap.size := Nat.le_of_lt (Nat.lt_of_le_of_lt hbt h.1.1)
  have G := grown_belowK h.2.1 hg hs
  refine ⟨h.1.kept3 hg (fun e => H bt e.symm rfl), h.2.2.2.2.kept3 hg (fun e => ?_), CurOk.belB7 h.2.2.1 G (by omega), But.then7 h.2.2.2.1 (G.mono (by omega))⟩
  have := (World.ownsRow.lt h.2.1 _ e.symm).1
  omega
theorem Tw.of {w0 w : World} {B p bt : Nat} {ep us : Int} {A A' : Option Addr} {n c n' c' : Nat} {M : Nat → KT} (hp : p < w0.heap.size) (hB : B ≤ p) (hbt : w0.heap.size < bt) (h1 : Bx3 w bt (.int .i64 ep) (.int .i64 us) (.slice A n c)) (h2 : Bx3 w w0.heap.size (.int .i64 0) (.int .i64 0) (.slice none 0 0)) (h3 : CurOk w B p) (h4 : But p w0 w) (hn : 0 < n') (ho : w.ownsRow (w0.heap.size + 1) 43 4 (.slice A' n' c') n' (krow M n')) : Tw w0 B p bt (w.setCell ⟨bt, 2, none⟩ (.slice A' n' c')) ep us A' n' c' M :=
  ⟨h1.set2 _, own_neK ho (But.oneK _ _ _ _) (no_box ho hn h1), h3.setOther (by omega) (by omega) _ _, h4.newK (But.oneK _ _ _ _) (by omega), h2.but (But.oneK _ _ _ _) (by omega)⟩
def AnyDrawn (w : World) (B p : Nat) (e : Ending) (w' : World) : Prop := ∃ (ep us : Int) (A : Option Addr) (n c : Nat) (M : Nat → KT), e = .returned (.agg #[.int .i64 ep, .int .i64 us, .slice A n c]) ∧ n ≤ 17 ∧ kwf M n ∧ w'.ownsRow w.heap.size 43 4 (.slice A n c) n (krow M n) ∧ CurOk w' B p ∧ But p w w'
set_option maxRecDepth 100000 in
set_option maxHeartbeats 8000000 in
theorem l7DrawAny_any (B p : Nat) (w : World) (hcur : CurOk w B p) :
    Calls Try.prog 32 #[.pointer (some ⟨p, 0, none⟩)] w fun e w' => AnyDrawn w B p e w' := by
  obtain ⟨i0, hi, hz0, hz1, hz2⟩ := infoK_parts
  have hpl := hcur.lt
  have hp : p < w.heap.size := hpl.1
  have hB : B ≤ p := hpl.2
  have hpw : w.heap.size ≠ p := by omega
  have A1 := Below.nw w (.cells #[.int .i64 0, .int .i64 0, .slice none 0 0] 39)
  have R := Bx3.new w (.int .i64 0) (.int .i64 0) (.slice none 0 0) 39
  go_enter Try.func32, Try.ntmps32
  go_wp2_with fail
  refine (l7DrawTable_any B p _ (by exact hcur.below A1)).mono ?_
  rintro e w1 ⟨ep, us, A, n, c, M, rfl, ⟨e0, e1⟩, ⟨s0, s1⟩, hn, hk, O, c1, b1⟩
  simp only [World.size_alloc] at O
  replace R := R.but b1 hpw
  have q1 : But p w w1 := (But.of_below A1).trans b1
  have A2 := Below.nw w1 (.cells #[.int .i64 ep, .int .i64 us, .slice A n c] 39)
  have T : Tw w B p w1.heap.size (w1.alloc (.cells #[.int .i64 ep, .int .i64 us, .slice A n c] 39)) ep us A n c M := ⟨Bx3.new w1 _ _ _ _, own_belK' O A2, c1.below A2, q1.alloc _, R.below A2⟩
  have H : ∀ g, (Value.slice A n c).ownBlock = some g → g ≠ w1.heap.size := fun g hg => by have := (World.ownsRow.lt O g hg).2; omega
  have hbt : w.heap.size < w1.heap.size := R.1
  clear A1 A2 b1 q1 R c1 hcur O
  go_wp2_with fail
  generalize w1.heap.size = bt at *
  generalize w1.alloc (.cells #[.int .i64 ep, .int .i64 us, .slice A n c] 39) = v at *
  have hbp : bt ≠ p := by omega
  refine (l1Below_any B p 25 _ T.2.2.1).mono ?_
  rintro e v2 ⟨z, rfl, zl, zh, _, _, cc, bb⟩
  replace T := T.but cc bb hp hbt
  clear cc bb
  by_cases h0 : z = 0
  · subst h0
    obtain ⟨n0, n1, n2, n3, n4, n5, n6⟩ := id T.1
    go_wp2_with fail
    have hpk := pickIn7 B p _ [-1, 100001, ep + 1] T.2.2.1 (by simp) (by simp); simp only [List.map_cons, List.map_nil, List.length_cons, List.length_nil, Nat.zero_add, Nat.reduceAdd] at hpk; refine hpk.mono ?_; clear hpk; rintro e v3 ⟨y, rfl, ym, cc, bb⟩; clear ym
    replace T := T.but cc bb hp hbt
    clear cc bb n0 n1 n2 n3 n4 n5 n6
    have T2 := T.epoch hp hB hbt y H
    obtain ⟨n0, n1, n2, n3, n4, n5, n6⟩ := id T.1; obtain ⟨r0, r1, r2, r3, r4, r5, r6⟩ := id T.2.2.2.2
    go_wp2_with fail
    exact bodyPost_ret (v := .agg #[.int .i64 y, .int .i64 us, .slice A n c]) (by simp (maxDischargeDepth := 6) [results, Try.results32, go_sem, *]) rfl ⟨_, _, _, _, _, M, rfl, by omega, hk, Tw.result T2 hp hB⟩
  · by_cases h1 : z = 1
    · subst h1
      go_wp2_with fail
      have hpk := pickIn7 B p _ [-1, 1001, 0, 1000] T.2.2.1 (by simp) (by simp); simp only [List.map_cons, List.map_nil, List.length_cons, List.length_nil, Nat.zero_add, Nat.reduceAdd] at hpk; refine hpk.mono ?_; clear hpk; rintro e v3 ⟨y, rfl, ym, cc, bb⟩; clear ym
      replace T := T.but cc bb hp hbt
      clear cc bb
      have T2 := T.used hp hB hbt y H
      obtain ⟨n0, n1, n2, n3, n4, n5, n6⟩ := id T.1; obtain ⟨r0, r1, r2, r3, r4, r5, r6⟩ := id T.2.2.2.2
      go_wp2_with fail
      exact bodyPost_ret (v := .agg #[.int .i64 ep, .int .i64 y, .slice A n c]) (by simp (maxDischargeDepth := 6) [results, Try.results32, go_sem, *]) rfl ⟨_, _, _, _, _, M, rfl, by omega, hk, Tw.result T2 hp hB⟩
    · by_cases h2 : z = 2
      · subst h2
        obtain ⟨n0, n1, n2, n3, n4, n5, n6⟩ := id T.1
        go_upto_region 8 with fail
        refine wp_region_held_drew (S := (fun _ => True)) (by kernel_rfl) ?_ (fun hHeld => ?_)
        · exact trivial
        clear n0 n1 n2 n3 n4 n5 n6
        replace T := T.drew
        generalize v2.drew = v3 at *
        (obtain ⟨n0, n1, n2, n3, n4, n5, n6⟩ := id T.1)
        refine wpAnyH_take (i := 0) (v := ?_) (by rw [List.getElem?_toArray]; rfl) (by kernel_rfl) (by kernel_rfl) (by kernel_rfl) (by intro _ _ _ h; exact h) (Or.inl ⟨by rfl, ?_⟩) (by assumption) ?_
        rotate_left
        · (intro w hSw; (try dsimp only at hSw); go_simp; all_goals with_reducible rfl)
        (try simp only [Act.put, List.setIfInBounds_toArray, List.set_cons_zero, List.set_cons_succ])
        refine wpAnyH_take (i := 2) (v := ?_) (by rw [List.getElem?_toArray]; rfl) (by kernel_rfl) (by kernel_rfl) (by kernel_rfl) (by intro _ _ _ h; exact h) (Or.inl ⟨by rfl, ?_⟩) (by assumption) ?_
        rotate_left
        · (intro w hSw; (try dsimp only at hSw); go_simp; all_goals with_reducible rfl)
        (try simp only [Act.put, List.setIfInBounds_toArray, List.set_cons_zero, List.set_cons_succ])
        refine wpAnyH_take (i := 4) (v := ?_) (by rw [List.getElem?_toArray]; rfl) (by kernel_rfl) (by kernel_rfl) (by kernel_rfl) (by intro _ _ _ h; exact h) (Or.inl ⟨by rfl, ?_⟩) (by assumption) ?_
        rotate_left
        · (intro w hSw; (try dsimp only at hSw); go_simp; all_goals with_reducible rfl)
        (try simp only [Act.put, List.setIfInBounds_toArray, List.set_cons_zero, List.set_cons_succ])
        refine wpAnyH_ready (rs := [1, 3]) (by kernel_rfl) (by simp) ?_
        refine (AllReadyH.cons (by rw [List.getElem?_toArray]; rfl) (fun K hK => ?_) (AllReadyH.cons (by rw [List.getElem?_toArray]; rfl) (fun K hK => ?_) AllReadyH.nil))
        · go_simp
          refine hK.out _ _ ?_ (fun hHeld => ?_)
          · exact trivial
          clear hK K
          (try simp only [Act.put, List.setIfInBounds_toArray, List.set_cons_zero, List.set_cons_succ])
          refine wpAnyH_ready (rs := [3]) (by kernel_rfl) (by simp) ?_
          refine (AllReadyH.cons (by rw [List.getElem?_toArray]; rfl) (fun K hK => ?_) AllReadyH.nil)
          go_simp
          refine (l1Below_any B p 9 _ T.2.2.1).mono ?_; rintro e v4 ⟨x1, rfl, x1l, x1h, _, _, cc, bb⟩; clear n0 n1 n2 n3 n4 n5 n6; (replace T := T.but cc bb hp hbt); clear cc bb; (obtain ⟨n0, n1, n2, n3, n4, n5, n6⟩ := id T.1)
          (try go_wp2_with fail)
          refine hK.out _ _ ?_ (fun hHeld => ?_)
          · exact trivial
          clear hK K
          (try simp only [Act.put, List.setIfInBounds_toArray, List.set_cons_zero, List.set_cons_succ])
          refine wpAnyH_ready (rs := [5]) (by kernel_rfl) (by simp) ?_
          refine (AllReadyH.cons (by rw [List.getElem?_toArray]; rfl) (fun K hK => ?_) AllReadyH.nil)
          go_simp
          refine (l1Below_any B p 6 _ T.2.2.1).mono ?_; rintro e v5 ⟨x2, rfl, x2l, x2h, _, _, cc, bb⟩; clear n0 n1 n2 n3 n4 n5 n6; (replace T := T.but cc bb hp hbt); clear cc bb; (obtain ⟨n0, n1, n2, n3, n4, n5, n6⟩ := id T.1)
          (try go_wp2_with fail)
          refine hK.out _ _ ?_ (fun hHeld => ?_)
          · exact trivial
          clear hK K
          (try simp only [Act.put, List.setIfInBounds_toArray, List.set_cons_zero, List.set_cons_succ])
          refine wpAnyH_take (i := 6) (v := ?_) (by rw [List.getElem?_toArray]; rfl) (by kernel_rfl) (by kernel_rfl) (by kernel_rfl) (by intro _ _ _ h; exact h) (Or.inl ⟨by rfl, ?_⟩) (by assumption) ?_
          rotate_left
          · (intro w hSw; (try dsimp only at hSw); go_simp; all_goals with_reducible rfl)
          (try simp only [Act.put, List.setIfInBounds_toArray, List.set_cons_zero, List.set_cons_succ])
          refine wpAnyH_ready (rs := [7]) (by kernel_rfl) (by simp) ?_
          refine (AllReadyH.cons (by rw [List.getElem?_toArray]; rfl) (fun K hK => ?_) AllReadyH.nil)
          go_simp
          clear n0 n1 n2 n3 n4 n5 n6; (have bb := Below.nw v5 (.cells #[.int .i64 5, .int .i64 x1, .int .i64 0, .int .i64 x2] 43)); (have HN : Hid (∀ j u, (show List Value from [.int .i64 5, .int .i64 x1, .int .i64 0, .int .i64 x2])[j]? = some u → (v5.alloc (.cells #[.int .i64 5, .int .i64 x1, .int .i64 0, .int .i64 x2] 43)).cell? ((⟨v5.heap.size, 0, none⟩ : Addr).add j) = some u) := fun j u hj => four_at v5 5 x1 0 x2 43 j u hj); (replace T := T.below bb); clear bb; generalize v5.heap.size = jb at *; generalize v5.alloc (.cells #[.int .i64 5, .int .i64 x1, .int .i64 0, .int .i64 x2] 43) = v6 at *; (have hsz : w.heap.size + 1 ≤ v6.heap.size := Nat.le_of_lt (Nat.lt_of_le_of_lt hbt T.1.1)); (obtain ⟨n0, n1, n2, n3, n4, n5, n6⟩ := id T.1)
          refine hK.out _ _ ?_ (fun hHeld => ?_)
          · exact trivial
          clear hK K
          (try simp only [Act.put, List.setIfInBounds_toArray, List.set_cons_zero, List.set_cons_succ])
          refine wpAnyH_ready (rs := [8]) (by kernel_rfl) (by simp) ?_
          refine (AllReadyH.cons (by rw [List.getElem?_toArray]; rfl) (fun K hK => ?_) AllReadyH.nil)
          rw [if_pos (by rfl)]; clear n0 n1 n2 n3 n4 n5 n6; refine wp_append_own _ _ _ 37 rfl (w.heap.size + 1) 43 i0 (.agg #[.int .i64 0, .int .i64 0, .int .i64 0, .int .i64 0]) 4 32 Try.underlying37 hi hz0 hz1 hz2 rfl (by decide) _ _ _ rfl T.2.1 ⟨jb, 0, none⟩ 1 1 [.int .i64 5, .int .i64 x1, .int .i64 0, .int .i64 x2] rfl rfl HN.out (four_one _ _ _ _) (by unfold maxLen; omega) (by omega) hsz ?_; intro v' wn hown' hgrow _; (have KP := T.kept hp hbt hgrow H); clear hgrow HN hsz T; (have HR : krow M n ++ [.int .i64 5, .int .i64 x1, .int .i64 0, .int .i64 x2] = krow (addG M n (kT 5 x1 0 x2)) (n + 1) := by (have e : krow M n = krow (addG M n (kT 5 x1 0 x2)) n := krow_congr fun j hj => (if_neg (by omega)).symm); rw [e]; exact krow_add (if_pos rfl)); rw [HR] at hown'; clear HR; (obtain ⟨a', c', rfl, _, _, _⟩ := ownF_src hown'); (obtain ⟨n0, n1, n2, n3, n4, n5, n6⟩ := id KP.1)
          refine hK.out _ _ ?_ (fun hHeld => ?_)
          · exact trivial
          clear hK K
          (try simp only [Act.put, List.setIfInBounds_toArray, List.set_cons_zero, List.set_cons_succ])
          refine wpAnyH_take (i := 9) (v := ?_) (by rw [List.getElem?_toArray]; rfl) (by kernel_rfl) (by kernel_rfl) (by kernel_rfl) (by intro _ _ _ h; exact h) (Or.inl ⟨by rfl, ?_⟩) (by assumption) ?_
          rotate_left
          · (intro w hSw; (try dsimp only at hSw); go_simp; all_goals with_reducible rfl)
          (try simp only [Act.put, List.setIfInBounds_toArray, List.set_cons_zero, List.set_cons_succ])
          refine wpAnyH_ready (rs := [10]) (by kernel_rfl) (by simp) ?_
          refine (AllReadyH.cons (by rw [List.getElem?_toArray]; rfl) (fun K hK => ?_) AllReadyH.nil)
          go_simp
          refine hK.out _ _ ?_ (fun hHeld => ?_)
          · exact trivial
          clear hK K
          (try simp only [Act.put, List.setIfInBounds_toArray, List.set_cons_zero, List.set_cons_succ])
          refine wpAnyH_done (by kernel_rfl) ?_ _
          have T := Tw.of hp hB hbt KP.1 KP.2.1 KP.2.2.1 KP.2.2.2 (Nat.succ_pos n) hown'
          have hk2 : kwf (addG M n (kT 5 x1 0 x2)) (n + 1) := kwf_add hk (by decide) ⟨x1l, x1h⟩
          generalize hGG : addG M n (kT 5 x1 0 x2) = G at *
          clear KP hown' n0 n1 n2 n3 n4 n5 n6
          generalize wn.setCell ⟨bt, 2, none⟩ (.slice a' (n + 1) c') = v8 at *
          obtain ⟨n0, n1, n2, n3, n4, n5, n6⟩ := id T.1; obtain ⟨r0, r1, r2, r3, r4, r5, r6⟩ := id T.2.2.2.2
          go_wp2_with fail
          exact bodyPost_ret (v := .agg #[.int .i64 ep, .int .i64 us, .slice a' (n + 1) c']) (by simp (maxDischargeDepth := 6) [results, Try.results32, go_sem, *]) rfl ⟨_, _, _, _, _, G, rfl, by omega, hk2, Tw.result T hp hB⟩
        · go_simp
          refine (l1Below_any B p 9 _ T.2.2.1).mono ?_; rintro e v4 ⟨x1, rfl, x1l, x1h, _, _, cc, bb⟩; clear n0 n1 n2 n3 n4 n5 n6; (replace T := T.but cc bb hp hbt); clear cc bb; (obtain ⟨n0, n1, n2, n3, n4, n5, n6⟩ := id T.1)
          (try go_wp2_with fail)
          refine hK.out _ _ ?_ (fun hHeld => ?_)
          · exact trivial
          clear hK K
          (try simp only [Act.put, List.setIfInBounds_toArray, List.set_cons_zero, List.set_cons_succ])
          refine wpAnyH_ready (rs := [1, 5]) (by kernel_rfl) (by simp) ?_
          refine (AllReadyH.cons (by rw [List.getElem?_toArray]; rfl) (fun K hK => ?_) (AllReadyH.cons (by rw [List.getElem?_toArray]; rfl) (fun K hK => ?_) AllReadyH.nil))
          · go_simp
            refine hK.out _ _ ?_ (fun hHeld => ?_)
            · exact trivial
            clear hK K
            (try simp only [Act.put, List.setIfInBounds_toArray, List.set_cons_zero, List.set_cons_succ])
            refine wpAnyH_ready (rs := [5]) (by kernel_rfl) (by simp) ?_
            refine (AllReadyH.cons (by rw [List.getElem?_toArray]; rfl) (fun K hK => ?_) AllReadyH.nil)
            go_simp
            refine (l1Below_any B p 6 _ T.2.2.1).mono ?_; rintro e v5 ⟨x2, rfl, x2l, x2h, _, _, cc, bb⟩; clear n0 n1 n2 n3 n4 n5 n6; (replace T := T.but cc bb hp hbt); clear cc bb; (obtain ⟨n0, n1, n2, n3, n4, n5, n6⟩ := id T.1)
            (try go_wp2_with fail)
            refine hK.out _ _ ?_ (fun hHeld => ?_)
            · exact trivial
            clear hK K
            (try simp only [Act.put, List.setIfInBounds_toArray, List.set_cons_zero, List.set_cons_succ])
            refine wpAnyH_take (i := 6) (v := ?_) (by rw [List.getElem?_toArray]; rfl) (by kernel_rfl) (by kernel_rfl) (by kernel_rfl) (by intro _ _ _ h; exact h) (Or.inl ⟨by rfl, ?_⟩) (by assumption) ?_
            rotate_left
            · (intro w hSw; (try dsimp only at hSw); go_simp; all_goals with_reducible rfl)
            (try simp only [Act.put, List.setIfInBounds_toArray, List.set_cons_zero, List.set_cons_succ])
            refine wpAnyH_ready (rs := [7]) (by kernel_rfl) (by simp) ?_
            refine (AllReadyH.cons (by rw [List.getElem?_toArray]; rfl) (fun K hK => ?_) AllReadyH.nil)
            go_simp
            clear n0 n1 n2 n3 n4 n5 n6; (have bb := Below.nw v5 (.cells #[.int .i64 5, .int .i64 x1, .int .i64 0, .int .i64 x2] 43)); (have HN : Hid (∀ j u, (show List Value from [.int .i64 5, .int .i64 x1, .int .i64 0, .int .i64 x2])[j]? = some u → (v5.alloc (.cells #[.int .i64 5, .int .i64 x1, .int .i64 0, .int .i64 x2] 43)).cell? ((⟨v5.heap.size, 0, none⟩ : Addr).add j) = some u) := fun j u hj => four_at v5 5 x1 0 x2 43 j u hj); (replace T := T.below bb); clear bb; generalize v5.heap.size = jb at *; generalize v5.alloc (.cells #[.int .i64 5, .int .i64 x1, .int .i64 0, .int .i64 x2] 43) = v6 at *; (have hsz : w.heap.size + 1 ≤ v6.heap.size := Nat.le_of_lt (Nat.lt_of_le_of_lt hbt T.1.1)); (obtain ⟨n0, n1, n2, n3, n4, n5, n6⟩ := id T.1)
            refine hK.out _ _ ?_ (fun hHeld => ?_)
            · exact trivial
            clear hK K
            (try simp only [Act.put, List.setIfInBounds_toArray, List.set_cons_zero, List.set_cons_succ])
            refine wpAnyH_ready (rs := [8]) (by kernel_rfl) (by simp) ?_
            refine (AllReadyH.cons (by rw [List.getElem?_toArray]; rfl) (fun K hK => ?_) AllReadyH.nil)
            rw [if_pos (by rfl)]; clear n0 n1 n2 n3 n4 n5 n6; refine wp_append_own _ _ _ 37 rfl (w.heap.size + 1) 43 i0 (.agg #[.int .i64 0, .int .i64 0, .int .i64 0, .int .i64 0]) 4 32 Try.underlying37 hi hz0 hz1 hz2 rfl (by decide) _ _ _ rfl T.2.1 ⟨jb, 0, none⟩ 1 1 [.int .i64 5, .int .i64 x1, .int .i64 0, .int .i64 x2] rfl rfl HN.out (four_one _ _ _ _) (by unfold maxLen; omega) (by omega) hsz ?_; intro v' wn hown' hgrow _; (have KP := T.kept hp hbt hgrow H); clear hgrow HN hsz T; (have HR : krow M n ++ [.int .i64 5, .int .i64 x1, .int .i64 0, .int .i64 x2] = krow (addG M n (kT 5 x1 0 x2)) (n + 1) := by (have e : krow M n = krow (addG M n (kT 5 x1 0 x2)) n := krow_congr fun j hj => (if_neg (by omega)).symm); rw [e]; exact krow_add (if_pos rfl)); rw [HR] at hown'; clear HR; (obtain ⟨a', c', rfl, _, _, _⟩ := ownF_src hown'); (obtain ⟨n0, n1, n2, n3, n4, n5, n6⟩ := id KP.1)
            refine hK.out _ _ ?_ (fun hHeld => ?_)
            · exact trivial
            clear hK K
            (try simp only [Act.put, List.setIfInBounds_toArray, List.set_cons_zero, List.set_cons_succ])
            refine wpAnyH_take (i := 9) (v := ?_) (by rw [List.getElem?_toArray]; rfl) (by kernel_rfl) (by kernel_rfl) (by kernel_rfl) (by intro _ _ _ h; exact h) (Or.inl ⟨by rfl, ?_⟩) (by assumption) ?_
            rotate_left
            · (intro w hSw; (try dsimp only at hSw); go_simp; all_goals with_reducible rfl)
            (try simp only [Act.put, List.setIfInBounds_toArray, List.set_cons_zero, List.set_cons_succ])
            refine wpAnyH_ready (rs := [10]) (by kernel_rfl) (by simp) ?_
            refine (AllReadyH.cons (by rw [List.getElem?_toArray]; rfl) (fun K hK => ?_) AllReadyH.nil)
            go_simp
            refine hK.out _ _ ?_ (fun hHeld => ?_)
            · exact trivial
            clear hK K
            (try simp only [Act.put, List.setIfInBounds_toArray, List.set_cons_zero, List.set_cons_succ])
            refine wpAnyH_done (by kernel_rfl) ?_ _
            have T := Tw.of hp hB hbt KP.1 KP.2.1 KP.2.2.1 KP.2.2.2 (Nat.succ_pos n) hown'
            have hk2 : kwf (addG M n (kT 5 x1 0 x2)) (n + 1) := kwf_add hk (by decide) ⟨x1l, x1h⟩
            generalize hGG : addG M n (kT 5 x1 0 x2) = G at *
            clear KP hown' n0 n1 n2 n3 n4 n5 n6
            generalize wn.setCell ⟨bt, 2, none⟩ (.slice a' (n + 1) c') = v8 at *
            obtain ⟨n0, n1, n2, n3, n4, n5, n6⟩ := id T.1; obtain ⟨r0, r1, r2, r3, r4, r5, r6⟩ := id T.2.2.2.2
            go_wp2_with fail
            exact bodyPost_ret (v := .agg #[.int .i64 ep, .int .i64 us, .slice a' (n + 1) c']) (by simp (maxDischargeDepth := 6) [results, Try.results32, go_sem, *]) rfl ⟨_, _, _, _, _, G, rfl, by omega, hk2, Tw.result T hp hB⟩
          · go_simp
            refine (l1Below_any B p 6 _ T.2.2.1).mono ?_; rintro e v5 ⟨x2, rfl, x2l, x2h, _, _, cc, bb⟩; clear n0 n1 n2 n3 n4 n5 n6; (replace T := T.but cc bb hp hbt); clear cc bb; (obtain ⟨n0, n1, n2, n3, n4, n5, n6⟩ := id T.1)
            (try go_wp2_with fail)
            refine hK.out _ _ ?_ (fun hHeld => ?_)
            · exact trivial
            clear hK K
            (try simp only [Act.put, List.setIfInBounds_toArray, List.set_cons_zero, List.set_cons_succ])
            refine wpAnyH_take (i := 6) (v := ?_) (by rw [List.getElem?_toArray]; rfl) (by kernel_rfl) (by kernel_rfl) (by kernel_rfl) (by intro _ _ _ h; exact h) (Or.inl ⟨by rfl, ?_⟩) (by assumption) ?_
            rotate_left
            · (intro w hSw; (try dsimp only at hSw); go_simp; all_goals with_reducible rfl)
            (try simp only [Act.put, List.setIfInBounds_toArray, List.set_cons_zero, List.set_cons_succ])
            refine wpAnyH_ready (rs := [1, 7]) (by kernel_rfl) (by simp) ?_
            refine (AllReadyH.cons (by rw [List.getElem?_toArray]; rfl) (fun K hK => ?_) (AllReadyH.cons (by rw [List.getElem?_toArray]; rfl) (fun K hK => ?_) AllReadyH.nil))
            · go_simp
              refine hK.out _ _ ?_ (fun hHeld => ?_)
              · exact trivial
              clear hK K
              (try simp only [Act.put, List.setIfInBounds_toArray, List.set_cons_zero, List.set_cons_succ])
              refine wpAnyH_ready (rs := [7]) (by kernel_rfl) (by simp) ?_
              refine (AllReadyH.cons (by rw [List.getElem?_toArray]; rfl) (fun K hK => ?_) AllReadyH.nil)
              go_simp
              clear n0 n1 n2 n3 n4 n5 n6; (have bb := Below.nw v5 (.cells #[.int .i64 5, .int .i64 x1, .int .i64 0, .int .i64 x2] 43)); (have HN : Hid (∀ j u, (show List Value from [.int .i64 5, .int .i64 x1, .int .i64 0, .int .i64 x2])[j]? = some u → (v5.alloc (.cells #[.int .i64 5, .int .i64 x1, .int .i64 0, .int .i64 x2] 43)).cell? ((⟨v5.heap.size, 0, none⟩ : Addr).add j) = some u) := fun j u hj => four_at v5 5 x1 0 x2 43 j u hj); (replace T := T.below bb); clear bb; generalize v5.heap.size = jb at *; generalize v5.alloc (.cells #[.int .i64 5, .int .i64 x1, .int .i64 0, .int .i64 x2] 43) = v6 at *; (have hsz : w.heap.size + 1 ≤ v6.heap.size := Nat.le_of_lt (Nat.lt_of_le_of_lt hbt T.1.1)); (obtain ⟨n0, n1, n2, n3, n4, n5, n6⟩ := id T.1)
              refine hK.out _ _ ?_ (fun hHeld => ?_)
              · exact trivial
              clear hK K
              (try simp only [Act.put, List.setIfInBounds_toArray, List.set_cons_zero, List.set_cons_succ])
              refine wpAnyH_ready (rs := [8]) (by kernel_rfl) (by simp) ?_
              refine (AllReadyH.cons (by rw [List.getElem?_toArray]; rfl) (fun K hK => ?_) AllReadyH.nil)
              rw [if_pos (by rfl)]; clear n0 n1 n2 n3 n4 n5 n6; refine wp_append_own _ _ _ 37 rfl (w.heap.size + 1) 43 i0 (.agg #[.int .i64 0, .int .i64 0, .int .i64 0, .int .i64 0]) 4 32 Try.underlying37 hi hz0 hz1 hz2 rfl (by decide) _ _ _ rfl T.2.1 ⟨jb, 0, none⟩ 1 1 [.int .i64 5, .int .i64 x1, .int .i64 0, .int .i64 x2] rfl rfl HN.out (four_one _ _ _ _) (by unfold maxLen; omega) (by omega) hsz ?_; intro v' wn hown' hgrow _; (have KP := T.kept hp hbt hgrow H); clear hgrow HN hsz T; (have HR : krow M n ++ [.int .i64 5, .int .i64 x1, .int .i64 0, .int .i64 x2] = krow (addG M n (kT 5 x1 0 x2)) (n + 1) := by (have e : krow M n = krow (addG M n (kT 5 x1 0 x2)) n := krow_congr fun j hj => (if_neg (by omega)).symm); rw [e]; exact krow_add (if_pos rfl)); rw [HR] at hown'; clear HR; (obtain ⟨a', c', rfl, _, _, _⟩ := ownF_src hown'); (obtain ⟨n0, n1, n2, n3, n4, n5, n6⟩ := id KP.1)
              refine hK.out _ _ ?_ (fun hHeld => ?_)
              · exact trivial
              clear hK K
              (try simp only [Act.put, List.setIfInBounds_toArray, List.set_cons_zero, List.set_cons_succ])
              refine wpAnyH_take (i := 9) (v := ?_) (by rw [List.getElem?_toArray]; rfl) (by kernel_rfl) (by kernel_rfl) (by kernel_rfl) (by intro _ _ _ h; exact h) (Or.inl ⟨by rfl, ?_⟩) (by assumption) ?_
              rotate_left
              · (intro w hSw; (try dsimp only at hSw); go_simp; all_goals with_reducible rfl)
              (try simp only [Act.put, List.setIfInBounds_toArray, List.set_cons_zero, List.set_cons_succ])
              refine wpAnyH_ready (rs := [10]) (by kernel_rfl) (by simp) ?_
              refine (AllReadyH.cons (by rw [List.getElem?_toArray]; rfl) (fun K hK => ?_) AllReadyH.nil)
              go_simp
              refine hK.out _ _ ?_ (fun hHeld => ?_)
              · exact trivial
              clear hK K
              (try simp only [Act.put, List.setIfInBounds_toArray, List.set_cons_zero, List.set_cons_succ])
              refine wpAnyH_done (by kernel_rfl) ?_ _
              have T := Tw.of hp hB hbt KP.1 KP.2.1 KP.2.2.1 KP.2.2.2 (Nat.succ_pos n) hown'
              have hk2 : kwf (addG M n (kT 5 x1 0 x2)) (n + 1) := kwf_add hk (by decide) ⟨x1l, x1h⟩
              generalize hGG : addG M n (kT 5 x1 0 x2) = G at *
              clear KP hown' n0 n1 n2 n3 n4 n5 n6
              generalize wn.setCell ⟨bt, 2, none⟩ (.slice a' (n + 1) c') = v8 at *
              obtain ⟨n0, n1, n2, n3, n4, n5, n6⟩ := id T.1; obtain ⟨r0, r1, r2, r3, r4, r5, r6⟩ := id T.2.2.2.2
              go_wp2_with fail
              exact bodyPost_ret (v := .agg #[.int .i64 ep, .int .i64 us, .slice a' (n + 1) c']) (by simp (maxDischargeDepth := 6) [results, Try.results32, go_sem, *]) rfl ⟨_, _, _, _, _, G, rfl, by omega, hk2, Tw.result T hp hB⟩
            · go_simp
              clear n0 n1 n2 n3 n4 n5 n6; (have bb := Below.nw v5 (.cells #[.int .i64 5, .int .i64 x1, .int .i64 0, .int .i64 x2] 43)); (have HN : Hid (∀ j u, (show List Value from [.int .i64 5, .int .i64 x1, .int .i64 0, .int .i64 x2])[j]? = some u → (v5.alloc (.cells #[.int .i64 5, .int .i64 x1, .int .i64 0, .int .i64 x2] 43)).cell? ((⟨v5.heap.size, 0, none⟩ : Addr).add j) = some u) := fun j u hj => four_at v5 5 x1 0 x2 43 j u hj); (replace T := T.below bb); clear bb; generalize v5.heap.size = jb at *; generalize v5.alloc (.cells #[.int .i64 5, .int .i64 x1, .int .i64 0, .int .i64 x2] 43) = v6 at *; (have hsz : w.heap.size + 1 ≤ v6.heap.size := Nat.le_of_lt (Nat.lt_of_le_of_lt hbt T.1.1)); (obtain ⟨n0, n1, n2, n3, n4, n5, n6⟩ := id T.1)
              refine hK.out _ _ ?_ (fun hHeld => ?_)
              · exact trivial
              clear hK K
              (try simp only [Act.put, List.setIfInBounds_toArray, List.set_cons_zero, List.set_cons_succ])
              refine wpAnyH_ready (rs := [1]) (by kernel_rfl) (by simp) ?_
              refine (AllReadyH.cons (by rw [List.getElem?_toArray]; rfl) (fun K hK => ?_) AllReadyH.nil)
              go_simp
              refine hK.out _ _ ?_ (fun hHeld => ?_)
              · exact trivial
              clear hK K
              (try simp only [Act.put, List.setIfInBounds_toArray, List.set_cons_zero, List.set_cons_succ])
              refine wpAnyH_ready (rs := [8]) (by kernel_rfl) (by simp) ?_
              refine (AllReadyH.cons (by rw [List.getElem?_toArray]; rfl) (fun K hK => ?_) AllReadyH.nil)
              rw [if_pos (by rfl)]; clear n0 n1 n2 n3 n4 n5 n6; refine wp_append_own _ _ _ 37 rfl (w.heap.size + 1) 43 i0 (.agg #[.int .i64 0, .int .i64 0, .int .i64 0, .int .i64 0]) 4 32 Try.underlying37 hi hz0 hz1 hz2 rfl (by decide) _ _ _ rfl T.2.1 ⟨jb, 0, none⟩ 1 1 [.int .i64 5, .int .i64 x1, .int .i64 0, .int .i64 x2] rfl rfl HN.out (four_one _ _ _ _) (by unfold maxLen; omega) (by omega) hsz ?_; intro v' wn hown' hgrow _; (have KP := T.kept hp hbt hgrow H); clear hgrow HN hsz T; (have HR : krow M n ++ [.int .i64 5, .int .i64 x1, .int .i64 0, .int .i64 x2] = krow (addG M n (kT 5 x1 0 x2)) (n + 1) := by (have e : krow M n = krow (addG M n (kT 5 x1 0 x2)) n := krow_congr fun j hj => (if_neg (by omega)).symm); rw [e]; exact krow_add (if_pos rfl)); rw [HR] at hown'; clear HR; (obtain ⟨a', c', rfl, _, _, _⟩ := ownF_src hown'); (obtain ⟨n0, n1, n2, n3, n4, n5, n6⟩ := id KP.1)
              refine hK.out _ _ ?_ (fun hHeld => ?_)
              · exact trivial
              clear hK K
              (try simp only [Act.put, List.setIfInBounds_toArray, List.set_cons_zero, List.set_cons_succ])
              refine wpAnyH_take (i := 9) (v := ?_) (by rw [List.getElem?_toArray]; rfl) (by kernel_rfl) (by kernel_rfl) (by kernel_rfl) (by intro _ _ _ h; exact h) (Or.inl ⟨by rfl, ?_⟩) (by assumption) ?_
              rotate_left
              · (intro w hSw; (try dsimp only at hSw); go_simp; all_goals with_reducible rfl)
              (try simp only [Act.put, List.setIfInBounds_toArray, List.set_cons_zero, List.set_cons_succ])
              refine wpAnyH_ready (rs := [10]) (by kernel_rfl) (by simp) ?_
              refine (AllReadyH.cons (by rw [List.getElem?_toArray]; rfl) (fun K hK => ?_) AllReadyH.nil)
              go_simp
              refine hK.out _ _ ?_ (fun hHeld => ?_)
              · exact trivial
              clear hK K
              (try simp only [Act.put, List.setIfInBounds_toArray, List.set_cons_zero, List.set_cons_succ])
              refine wpAnyH_done (by kernel_rfl) ?_ _
              have T := Tw.of hp hB hbt KP.1 KP.2.1 KP.2.2.1 KP.2.2.2 (Nat.succ_pos n) hown'
              have hk2 : kwf (addG M n (kT 5 x1 0 x2)) (n + 1) := kwf_add hk (by decide) ⟨x1l, x1h⟩
              generalize hGG : addG M n (kT 5 x1 0 x2) = G at *
              clear KP hown' n0 n1 n2 n3 n4 n5 n6
              generalize wn.setCell ⟨bt, 2, none⟩ (.slice a' (n + 1) c') = v8 at *
              obtain ⟨n0, n1, n2, n3, n4, n5, n6⟩ := id T.1; obtain ⟨r0, r1, r2, r3, r4, r5, r6⟩ := id T.2.2.2.2
              go_wp2_with fail
              exact bodyPost_ret (v := .agg #[.int .i64 ep, .int .i64 us, .slice a' (n + 1) c']) (by simp (maxDischargeDepth := 6) [results, Try.results32, go_sem, *]) rfl ⟨_, _, _, _, _, G, rfl, by omega, hk2, Tw.result T hp hB⟩
      · obtain ⟨n0, n1, n2, n3, n4, n5, n6⟩ := id T.1; obtain ⟨r0, r1, r2, r3, r4, r5, r6⟩ := id T.2.2.2.2
        go_wp2_with fail
        exact bodyPost_ret (v := .agg #[.int .i64 ep, .int .i64 us, .slice A n c]) (by simp (maxDischargeDepth := 6) [results, Try.results32, go_sem, *]) rfl ⟨_, _, _, _, _, M, rfl, by omega, hk, Tw.result T hp hB⟩
end Go.Proofs.Ytgfhcilhibbooaa
namespace Go.Proofs.Ytgfhcilhibbooaa
open Go.RowKit
set_option linter.unusedVariables false
theorem own_at7 {w : World} {base n c : Nat} {A : Option Addr} {M : Nat → KT} (h : w.ownsRow base 43 4 (.slice A n c) n (krow M n)) (h0 : 0 < n) : ∃ b off, A = some ⟨b, off, none⟩ ∧ Cs w b off (n * 4) (MFAsk M) := by
  rcases own_srcK h with h1 | h1
  · omega
  · exact h1
set_option maxRecDepth 100000 in
set_option maxHeartbeats 4000000 in
theorem l7DrawNonce_any (B p base : Nat) (ep us : Int) (A : Option Addr) (n c : Nat) (M : Nat → KT) (w : World) (hcur : CurOk w B p) (hp : p < base) (hn : n ≤ 17) (hk : kwf M n) (O : w.ownsRow base 43 4 (.slice A n c) n (krow M n)) :
    Calls Try.prog 33 #[.pointer (some ⟨p, 0, none⟩), .agg #[.int .i64 ep, .int .i64 us, .slice A n c]] w fun e w' => ∃ v : Int, e = .returned (.int .i64 v) ∧ (Lit.int .i64 v).wf = true ∧ CurOk w' B p ∧ But p w w' := by
  have hpl := hcur.lt
  have hpw : w.heap.size ≠ p := by omega
  have A1 := Below.nw w (.cells #[.int .i64 ep, .int .i64 us, .slice A n c] 39)
  have N := IB3.new w ep us A n c 39
  have C := hcur.below A1
  have Q : But p w (w.alloc (.cells #[.int .i64 ep, .int .i64 us, .slice A n c] 39)) := But.of_below A1
  replace O := own_belK' O A1
  clear hcur A1
  by_cases h0 : n = 0
  · subst h0
    go_enter Try.func33, Try.ntmps33
    go_upto_region 1 with fail
    generalize w.alloc (.cells #[.int .i64 ep, .int .i64 us, .slice A 0 c] 39) = v at *
    obtain ⟨n0, n1, n2, n3⟩ := id N
    go_wp2_with fail
    refine (l1Below_any B p 3000 _ C).mono ?_; rintro e v4 ⟨x, rfl, xl, xh, _, _, cc, bb⟩; replace Q := Q.trans bb; (have hw : (Lit.int .i64 (x - 1)).wf = true := by simp only [Lit.wf, Bool.and_eq_true, decide_eq_true_eq]; exact ⟨by show (-9223372036854775808 : Int) ≤ x - 1; omega, by show x - 1 ≤ (9223372036854775807 : Int); omega⟩); go_wp2_with fail; go_ret; exact ⟨_, rfl, hw, cc, Q⟩
  · have hn0 : 0 < n := by omega
    go_enter Try.func33, Try.ntmps33
    go_upto_region 1 with fail
    generalize w.alloc (.cells #[.int .i64 ep, .int .i64 us, .slice A n c] 39) = v at *
    obtain ⟨n0, n1, n2, n3⟩ := id N
    go_wp2_with fail
    refine (l1Once_any B p 6 _ C).mono ?_
    rintro e v2 ⟨oo, rfl, cc, bb⟩
    clear n0 n1 n2 n3
    replace N := N.but bb hpw
    replace O := own_butK O bb hp
    replace Q := Q.trans bb
    replace C := cc
    clear cc bb
    cases oo
    · obtain ⟨b, off, rfl, _⟩ := own_at7 O hn0
      obtain ⟨n0, n1, n2, n3⟩ := id N
      go_upto_region 3 with fail
      refine wp_region_held_drew (S := (fun w' => w'.cell? ⟨w.heap.size, 2, none⟩ = some (.slice (some ⟨b, off, none⟩) n c))) (by kernel_rfl) ?_ (fun hHeld => ?_)
      · first | exact n3 | (simp (maxDischargeDepth := 6) [go_sem, *]; done)
      clear n0 n1 n2 n3
      replace N := N.drew
      replace C := C.drew
      replace Q := Q.drew
      replace O : v2.drew.ownsRow base 43 4 (.slice (some ⟨b, off, none⟩) n c) n (krow M n) := O
      generalize v2.drew = v3 at *
      obtain ⟨n0, n1, n2, n3⟩ := id N
      refine wpAnyH_take (i := 0) (v := ?_) (by rw [List.getElem?_toArray]; rfl) (by kernel_rfl) (by kernel_rfl) (by kernel_rfl) (by intro _ _ _ h; exact h) (Or.inl ⟨by rfl, ?_⟩) (by assumption) ?_
      rotate_left
      · (intro w hSw; (try dsimp only at hSw); go_simp; all_goals with_reducible rfl)
      (try simp only [Act.put, List.setIfInBounds_toArray, List.set_cons_zero, List.set_cons_succ])
      refine wpAnyH_take (i := 1) (v := ?_) (by rw [List.getElem?_toArray]; rfl) (by kernel_rfl) (by kernel_rfl) (by kernel_rfl) (by intro _ _ _ h; exact h) (Or.inl ⟨by rfl, ?_⟩) (by assumption) ?_
      rotate_left
      · (intro w hSw; (try dsimp only at hSw); go_simp; all_goals with_reducible rfl)
      (try simp only [Act.put, List.setIfInBounds_toArray, List.set_cons_zero, List.set_cons_succ])
      refine wpAnyH_take (i := 2) (v := ?_) (by rw [List.getElem?_toArray]; rfl) (by kernel_rfl) (by kernel_rfl) (by kernel_rfl) (by intro _ _ _ h; exact h) (Or.inl ⟨by rfl, ?_⟩) (by assumption) ?_
      rotate_left
      · (intro w hSw; (try dsimp only at hSw); go_simp; all_goals with_reducible rfl)
      (try simp only [Act.put, List.setIfInBounds_toArray, List.set_cons_zero, List.set_cons_succ])
      refine wpAnyH_take (i := 3) (v := ?_) (by rw [List.getElem?_toArray]; rfl) (by kernel_rfl) (by kernel_rfl) (by kernel_rfl) (by intro _ _ _ h; exact h) (Or.inl ⟨by rfl, ?_⟩) (by assumption) ?_
      rotate_left
      · (intro w hSw; (try dsimp only at hSw); go_simp; all_goals with_reducible rfl)
      (try simp only [Act.put, List.setIfInBounds_toArray, List.set_cons_zero, List.set_cons_succ])
      refine wpAnyH_take (i := 4) (v := ?_) (by rw [List.getElem?_toArray]; rfl) (by kernel_rfl) (by kernel_rfl) (by kernel_rfl) (by intro _ _ _ h; exact h) (Or.inl ⟨by rfl, ?_⟩) (by assumption) ?_
      rotate_left
      · (intro w hSw; (try dsimp only at hSw); go_simp; all_goals with_reducible rfl)
      (try simp only [Act.put, List.setIfInBounds_toArray, List.set_cons_zero, List.set_cons_succ])
      refine wpAnyH_take (i := 5) (v := ?_) (by rw [List.getElem?_toArray]; rfl) (by kernel_rfl) (by kernel_rfl) (by kernel_rfl) (by intro _ _ _ h; exact h) (Or.inl ⟨by rfl, ?_⟩) (by assumption) ?_
      rotate_left
      · (intro w hSw; (try dsimp only at hSw); go_simp; all_goals with_reducible rfl)
      (try simp only [Act.put, List.setIfInBounds_toArray, List.set_cons_zero, List.set_cons_succ])
      refine wpAnyH_ready (rs := [6]) (by kernel_rfl) (by simp) ?_
      refine (AllReadyH.cons (by rw [List.getElem?_toArray]; rfl) (fun K hK => ?_) AllReadyH.nil)
      go_simp
      refine (l1Below_any B p n _ C).mono ?_; rintro e v4 ⟨x, rfl, xl, xh, xp, _, cc, bb⟩; (have hx := xp (by omega)); (obtain ⟨j, rfl⟩ := Int.eq_ofNat_of_zero_le xl); (have hj : j < n := by omega); clear n0 n1 n2 n3 xp xl xh; (replace N := N.but bb hpw); (replace O := own_butK O bb hp); (replace Q := Q.trans bb); (replace C := cc); clear cc bb; (obtain ⟨b', off', hbo, CS⟩ := own_at7 O hn0); (simp only [Option.some.injEq, Addr.mk.injEq, and_true] at hbo); (obtain ⟨rfl, rfl⟩ := hbo); (have hw := (hk j hj).1); (obtain ⟨y0, y1, y2, y3, hM⟩ := tupAsk M j); (obtain ⟨c0, c1, c2, c3⟩ := CS.elAsk hj hM); rw [hM] at hw; (have hbr := CS.1); clear hM CS; (obtain ⟨n0, n1, n2, n3⟩ := id N)
      (try go_wp2_with fail)
      refine hK.out _ _ ?_ (fun hHeld => ?_)
      · first | exact n3 | (simp (maxDischargeDepth := 6) [go_sem, *]; done)
      clear hK K
      (try simp only [Act.put, List.setIfInBounds_toArray, List.set_cons_zero, List.set_cons_succ])
      refine wpAnyH_take (i := 7) (v := ?_) (by rw [List.getElem?_toArray]; rfl) (by kernel_rfl) (by kernel_rfl) (by kernel_rfl) (by intro _ _ _ h; exact h) (Or.inl ⟨by rfl, ?_⟩) (by assumption) ?_
      rotate_left
      · (intro w hSw; (try dsimp only at hSw); go_simp; all_goals with_reducible rfl)
      (try simp only [Act.put, List.setIfInBounds_toArray, List.set_cons_zero, List.set_cons_succ])
      refine wpAnyH_take (i := 8) (v := ?_) (by rw [List.getElem?_toArray]; rfl) (by kernel_rfl) (by kernel_rfl) (by kernel_rfl) (by intro _ _ _ h; exact h) (Or.inl ⟨by rfl, ?_⟩) (by assumption) ?_
      rotate_left
      · (intro w hSw; (try dsimp only at hSw); go_simp; all_goals with_reducible rfl)
      (try simp only [Act.put, List.setIfInBounds_toArray, List.set_cons_zero, List.set_cons_succ])
      refine wpAnyH_ready (rs := [9]) (by kernel_rfl) (by simp) ?_
      refine (AllReadyH.cons (by rw [List.getElem?_toArray]; rfl) (fun K hK => ?_) AllReadyH.nil)
      go_simp
      refine hK.out _ _ ?_ (fun hHeld => ?_)
      · first | exact n3 | (simp (maxDischargeDepth := 6) [go_sem, *]; done)
      clear hK K
      (try simp only [Act.put, List.setIfInBounds_toArray, List.set_cons_zero, List.set_cons_succ])
      refine wpAnyH_take (i := 10) (v := ?_) (by rw [List.getElem?_toArray]; rfl) (by kernel_rfl) (by kernel_rfl) (by kernel_rfl) (by intro _ _ _ h; exact h) (Or.inl ⟨by rfl, ?_⟩) (by assumption) ?_
      rotate_left
      · (intro w hSw; (try dsimp only at hSw); go_simp; all_goals with_reducible rfl)
      (try simp only [Act.put, List.setIfInBounds_toArray, List.set_cons_zero, List.set_cons_succ])
      refine wpAnyH_done (by kernel_rfl) ?_ _
      (try go_wp2_with fail)
      go_ret
      exact ⟨_, rfl, hw, C, Q⟩
    · go_wp2_with fail
      refine (l1Below_any B p 3000 _ C).mono ?_; rintro e v4 ⟨x, rfl, xl, xh, _, _, cc, bb⟩; replace Q := Q.trans bb; (have hw : (Lit.int .i64 (x - 1)).wf = true := by simp only [Lit.wf, Bool.and_eq_true, decide_eq_true_eq]; exact ⟨by show (-9223372036854775808 : Int) ≤ x - 1; omega, by show x - 1 ≤ (9223372036854775807 : Int); omega⟩); go_wp2_with fail; go_ret; exact ⟨_, rfl, hw, cc, Q⟩
end Go.Proofs.Ytgfhcilhibbooaa
namespace Go.Proofs.Ytgfhcilhibbooaa
open Go.RowKit
set_option linter.unusedVariables false
/- What stands while DrawUse looks through the asks: the table's box, its row, the cursor, the result's box. -/
def Du (w : World) (B p bt base : Nat) (ep us : Int) (A : Option Addr) (n c : Nat) (M : Nat → KT) (wr : World) : Prop := IB3 wr bt ep us A n c ∧ wr.ownsRow base 43 4 (.slice A n c) n (krow M n) ∧ CurOk wr B p ∧ Below w.heap.size w wr ∧ Bx3 wr w.heap.size (.int .i64 0) (.int .i64 0) (.slice none 0 0)
theorem Du.but {w wr w' : World} {B p bt base : Nat} {ep us : Int} {A : Option Addr} {n c : Nat} {M : Nat → KT} (h : Du w B p bt base ep us A n c M wr) (hc : CurOk w' B p) (hb : But p wr w') (hp : p < base) (hwp : w.heap.size < p) (hbt : bt ≠ p) : Du w B p bt base ep us A n c M w' :=
  ⟨h.1.but hb hbt, own_butK h.2.1 hb hp, hc, h.2.2.2.1.trans (hb.below (by omega) h.2.2.2.1.size), h.2.2.2.2.but hb (by omega)⟩
theorem Du.result {w wr : World} {B p bt base : Nat} {ep us : Int} {A : Option Addr} {n c : Nat} {M : Nat → KT} (h : Du w B p bt base ep us A n c M wr) (hb : w.heap.size < base) {u0 u1 u2 : Value} : (put3 wr w.heap.size u0 u1 u2).ownsRow w.heap.size 43 4 (.slice A n c) n (krow M n) ∧ Below w.heap.size w (put3 wr w.heap.size u0 u1 u2) :=
  ⟨ownK_le (own_butK h.2.1 (put3_but wr w.heap.size u0 u1 u2) hb) (by omega), h.2.2.2.1.trans ((put3_but wr w.heap.size u0 u1 u2).below (Nat.le_refl _) h.2.2.2.1.size)⟩
def UseDrawn (w : World) (e : Ending) (w' : World) : Prop := ∃ (ep us : Int) (A : Option Addr) (n c : Nat) (M : Nat → KT) (x y : Int), e = .returned (.tuple #[.agg #[.int .i64 ep, .int .i64 us, .slice A n c], .int .i64 x, .int .i64 y]) ∧ n ≤ 17 ∧ kwf M n ∧ (Lit.int .i64 x).wf = true ∧ (Lit.int .i64 y).wf = true ∧ w'.ownsRow w.heap.size 43 4 (.slice A n c) n (krow M n) ∧ Below w.heap.size w w'
set_option maxRecDepth 100000 in
set_option maxHeartbeats 8000000 in
theorem DrawUse_any (a0 : Option Addr) (n0 c0 : Nat) (w : World) (hn : n0 ≤ 1048576) (hcode : CodeB w w.heap.size a0 n0) :
    Calls Try.prog 15 #[.slice a0 n0 c0] w fun e w' => UseDrawn w e w' := by
  have A1 := Below.nw w (.cells #[.int .i64 0, .int .i64 0, .slice none 0 0] 39)
  have R := Bx3.new w (.int .i64 0) (.int .i64 0) (.slice none 0 0) 39
  have HC : Hid (CodeB (w.alloc (.cells #[.int .i64 0, .int .i64 0, .slice none 0 0] 39)) (w.alloc (.cells #[.int .i64 0, .int .i64 0, .slice none 0 0] 39)).heap.size a0 n0) := (hcode.below A1).more A1.size
  clear hcode
  go_enter Try.func15, Try.ntmps15
  go_wp2_with fail
  refine (l1New_any a0 n0 c0 _ hn HC.out).mono ?_
  rintro e w1 ⟨p, rfl, C, hb⟩
  have q := C.lt
  simp only [World.size_alloc] at q
  have hp1 : p < w1.heap.size := q.1
  have hwp : w.heap.size < p := by omega
  replace R := R.below hb
  have B0 := A1.trans (hb.mono A1.size)
  clear A1 hb HC q
  generalize (w.alloc (.cells #[.int .i64 0, .int .i64 0, .slice none 0 0] 39)).heap.size = B at *
  go_wp2_with fail
  refine (l7DrawAny_any B p _ C).mono ?_
  rintro e w2 ⟨ep, us, A, n, c, M, rfl, hn17, hk, O, C2, bb⟩
  have hbase : w.heap.size < w1.heap.size := by omega
  replace R := R.but bb (by omega)
  replace B0 := B0.trans (bb.below (B := w.heap.size) (by omega) (by omega))
  have hbp : w2.heap.size ≠ p := by have := C2.lt; omega
  have A2 := Below.nw w2 (.cells #[.int .i64 ep, .int .i64 us, .slice A n c] 39)
  have D : Du w B p w2.heap.size w1.heap.size ep us A n c M (w2.alloc (.cells #[.int .i64 ep, .int .i64 us, .slice A n c] 39)) := ⟨IB3.new w2 ep us A n c _, own_belK' O A2, C2.below A2, B0.trans (A2.mono B0.size), R.below A2⟩
  clear R B0 A2 O C2 bb C
  go_wp2_with fail
  generalize w2.heap.size = bt at *
  generalize w2.alloc (.cells #[.int .i64 ep, .int .i64 us, .slice A n c] 39) = v at *
  generalize w1.heap.size = base at *
  refine (l7DrawNonce_any B p base ep us A n c M _ D.2.2.1 hp1 hn17 hk D.2.1).mono ?_
  rintro e v2 ⟨x, rfl, wx, cc, bb⟩
  replace D := D.but cc bb hp1 hwp hbp
  clear cc bb
  go_wp2_with fail
  refine (l1Below_any B p 5 _ D.2.2.1).mono ?_
  rintro e v3 ⟨yy, rfl, yl, yh, _, _, cc, bb⟩
  replace D := D.but cc bb hp1 hwp hbp
  have wyy : (Lit.int .i64 yy).wf = true := wf_small ⟨by omega, yh⟩
  clear cc bb yl yh
  go_wp2_with fail
  go_loopw [8, 9] (fun s8 i wr => ∃ (k : Nat) (y : Int), k ≤ n ∧ i = .int .i64 (k : Int) ∧ s8 = .int .i64 y ∧ (Lit.int .i64 y).wf = true ∧ Du w B p bt base ep us A n c M wr) (fun _ i _ => n - (intOf i).toNat)
  case atStart => exact ⟨0, yy, by omega, rfl, rfl, wyy, D⟩
  case round =>
    obtain ⟨k, y, hkn, rfl, rfl, wy, D⟩ := hrel
    by_cases hlt : k < n
    · have hli : (k : Int) < (n : Int) := by omega
      obtain ⟨b, off, rfl, CS⟩ := own_at7 D.2.1 (by omega)
      obtain ⟨y0, y1, y2, y3, hM⟩ := tupAsk M k
      have wy1 : (Lit.int .i64 y1).wf = true := by have := (hk k hlt).2; rw [hM] at this; exact this
      obtain ⟨c0, c1, c2, c3⟩ := CS.elAsk hlt hM
      have hbr := CS.1
      clear CS
      obtain ⟨t0, t1, t2, t3⟩ := id D.1
      by_cases hx : y0 = x
      · go_wp2_with fail
        refine (l1Once_any B p 4 _ D.2.2.1).mono ?_
        rintro e v5 ⟨oo, rfl, cc, bb⟩
        clear t0 t1 t2 t3 c0 c1 c2 c3 hbr
        replace D := D.but cc bb hp1 hwp hbp
        clear cc bb
        cases oo
        · obtain ⟨b', off', hbo, CS⟩ := own_at7 D.2.1 (by omega)
          simp only [Option.some.injEq, Addr.mk.injEq, and_true] at hbo
          obtain ⟨rfl, rfl⟩ := hbo
          obtain ⟨c0, c1, c2, c3⟩ := CS.elAsk hlt hM
          have hbr := CS.1
          clear CS
          obtain ⟨t0, t1, t2, t3⟩ := id D.1
          go_wp2_with fail
          go_roundw; (case rel => exact ⟨k + 1, y1, by omega, by go_num, rfl, wy1, D⟩); (case measure => simp [intOf]; omega)
        · go_wp2_with fail
          go_roundw; (case rel => exact ⟨k + 1, y, by omega, by go_num, rfl, wy, D⟩); (case measure => simp [intOf]; omega)
      · go_wp2_with fail
        go_roundw; (case rel => exact ⟨k + 1, y, by omega, by go_num, rfl, wy, D⟩); (case measure => simp [intOf]; omega)
    · have hkk : k = n := by omega
      subst hkk
      obtain ⟨t0, t1, t2, t3⟩ := id D.1
      obtain ⟨r0, r1, r2, r3, r4, r5, r6⟩ := id D.2.2.2.2
      go_wp2_with fail
      exact bodyPost_ret (v := .tuple #[.agg #[.int .i64 ep, .int .i64 us, .slice A k c], .int .i64 x, .int .i64 y]) (by simp (maxDischargeDepth := 6) [results, Try.results15, go_sem, *]) rfl ⟨ep, us, A, k, c, M, x, y, rfl, hn17, hk, wx, wy, Du.result D hbase⟩
end Go.Proofs.Ytgfhcilhibbooaa
namespace Go.Proofs.Ytgfhcilhibbooaa
open Go.RowKit
set_option linter.unusedVariables false
def UseIs (ep us : Int) (M : Nat → KT) (n : Nat) (x y Xe Xu : Int) (mm : Nat) (G : Nat → KT) (z0 z1 z2 z3 C1 : Int) : Prop :=
  (tabB ep us M n = false ∧ Xe = 0 ∧ Xu = 0 ∧ mm = 0 ∧ G = M ∧ z0 = 0 ∧ z1 = 0 ∧ z2 = 0 ∧ z3 = 0 ∧ C1 = 1) ∨
  (tabB ep us M n = true ∧ (∀ j, j < n → (M j).1 ≠ x) ∧ Xe = ep ∧ Xu = us ∧ mm = n ∧ G = M ∧ z0 = 0 ∧ z1 = 0 ∧ z2 = 0 ∧ z3 = 0 ∧ C1 = 4) ∨
  (tabB ep us M n = true ∧ ∃ i, i < n ∧ (M i).1 = x ∧ (M i).2.1 ≠ y ∧ Xe = ep ∧ Xu = us ∧ mm = n ∧ G = M ∧ z0 = 0 ∧ z1 = 0 ∧ z2 = 0 ∧ z3 = 0 ∧ C1 = 5) ∨
  (tabB ep us M n = true ∧ ∃ i, i < n ∧ (M i).1 = x ∧ (M i).2.1 = y ∧ Xe = ep ∧ Xu = us ∧ mm = n - 1 ∧ G = cutK M i ∧ M i = kT z0 z1 z2 z3 ∧ C1 = 0)
theorem ansUse (ep us : Int) (M : Nat → KT) (n : Nat) (x y : Int) : ∃ Xe Xu mm G z0 z1 z2 z3 C1, UseIs ep us M n x y Xe Xu mm G z0 z1 z2 z3 C1 ∧ mm ≤ 17 ∧ True := by
  cases h : tabB ep us M n
  · exact ⟨_, _, _, _, _, _, _, _, _, .inl ⟨h, rfl, rfl, rfl, rfl, rfl, rfl, rfl, rfl, rfl⟩, by omega, trivial⟩
  · have hn := tabB_len' h
    by_cases he : ∃ i, i < n ∧ (M i).1 = x
    · obtain ⟨i, hi, hx⟩ := he
      by_cases hy : (M i).2.1 = y
      · obtain ⟨a0, a1, a2, a3, hM⟩ := tupAsk M i
        exact ⟨_, _, _, _, a0, a1, a2, a3, _, .inr (.inr (.inr ⟨h, i, hi, hx, hy, rfl, rfl, rfl, rfl, hM, rfl⟩)), by omega, trivial⟩
      · exact ⟨_, _, _, _, _, _, _, _, _, .inr (.inr (.inl ⟨h, i, hi, hx, hy, rfl, rfl, rfl, rfl, rfl, rfl, rfl, rfl, rfl⟩)), by omega, trivial⟩
    · exact ⟨_, _, _, _, _, _, _, _, _, .inr (.inl ⟨h, fun j hj e => he ⟨j, hj, e⟩, rfl, rfl, rfl, rfl, rfl, rfl, rfl, rfl, rfl⟩), by omega, trivial⟩
theorem one_at {ep us : Int} {M : Nat → KT} {n : Nat} (h : tabB ep us M n = true) {i : Nat} (hi : i < n) {x : Int} (hx : (M i).1 = x) : ∀ j, j < n → j ≠ i → (M j).1 ≠ x := by
  intro j hj hne e
  have ha := tOk_asc (tabB_tOk h)
  rcases Nat.lt_or_gt_of_ne hne with q | q
  · have := ha j i q hi; omega
  · have := ha i j q hj; omega
theorem specUse_ans (ep us : Int) (b n c : Nat) (M : Nat → KT) (x y Xe Xu : Int) (mm : Nat) (G : Nat → KT) (z0 z1 z2 z3 C1 : Int) (w : World) (hm : n ≤ maxLen) (hf : Cs w b 0 (n * 4) (MFAsk M)) (h : UseIs ep us M n x y Xe Xu mm G z0 z1 z2 z3 C1) :
    Calls Try.prog 16 #[.agg #[.int .i64 ep, .int .i64 us, .slice (some ⟨b, 0, none⟩) n c], .int .i64 x, .int .i64 y] w fun e w' => ∃ a' c', e = .returned (.tuple #[.agg #[.int .i64 Xe, .int .i64 Xu, .slice a' mm c'], .agg #[.int .i64 z0, .int .i64 z1, .int .i64 z2, .int .i64 z3], .int .i64 C1]) ∧ w'.ownsRow w.heap.size 43 4 (.slice a' mm c') mm (krow G mm) ∧ Below w.heap.size w w' := by
  rcases h with ⟨h, rfl, rfl, rfl, rfl, rfl, rfl, rfl, rfl, rfl⟩ | ⟨h, hno, rfl, rfl, rfl, rfl, rfl, rfl, rfl, rfl, rfl⟩ | ⟨h, i, hi, hx, hy, rfl, rfl, rfl, rfl, rfl, rfl, rfl, rfl, rfl⟩ | ⟨h, i, hi, hx, hy, rfl, rfl, rfl, rfl, hM, rfl⟩
  · exact specUse_bad _ _ _ _ c _ x y w hm (Froms.of hf) h
  · refine specUse_code _ _ _ _ c _ x y w hm (Froms.of hf) mm (if ((G mm).2.1 != y) = true then 5 else 0) h (fun j hj _ => hno j hj) (fun hi => absurd hi (Nat.lt_irrefl _)) (fun z hz => ?_) hf.1 4 (if_pos (Nat.le_refl _)) rfl
    subst hz
    by_cases q : ((G mm).2.1 != y) = true
    · exact .inl ⟨q, if_pos q⟩
    · exact .inr ⟨by simpa using q, if_neg q⟩
  · exact specUse_code _ _ _ _ c _ x y w hm (Froms.of hf) i 5 h (one_at h hi hx) (fun _ => hx) (fun z hz => .inl ⟨by subst hz; exact bne_iff_ne.2 hy, rfl⟩) hf.1 5 (if_neg (by omega)) rfl
  · exact specUse_done _ _ _ _ c _ x y w hm (Froms.of hf) i 0 h (one_at h hi hx) (fun _ => hx) (fun z hz => .inr ⟨by subst hz; rw [hy]; exact bne_self_eq_false _, rfl⟩) hf.1 z0 z1 z2 z3 hi hM rfl
theorem implUse_ans (ep us : Int) (b n c : Nat) (M : Nat → KT) (x y Xe Xu : Int) (mm : Nat) (G : Nat → KT) (z0 z1 z2 z3 C1 : Int) (w : World) (hm : n ≤ maxLen) (hf : Cs w b 0 (n * 4) (MFAsk M)) (hw : ∀ i, i < n → (Lit.int .i64 (M i).1).wf = true) (wx : (Lit.int .i64 x).wf = true) (wy : (Lit.int .i64 y).wf = true) (h : UseIs ep us M n x y Xe Xu mm G z0 z1 z2 z3 C1) :
    Calls Try.prog 17 #[.agg #[.int .i64 ep, .int .i64 us, .slice (some ⟨b, 0, none⟩) n c], .int .i64 x, .int .i64 y] w fun e w' => ∃ a' c', e = .returned (.tuple #[.agg #[.int .i64 Xe, .int .i64 Xu, .slice a' mm c'], .agg #[.int .i64 z0, .int .i64 z1, .int .i64 z2, .int .i64 z3], .int .i64 C1]) ∧ w'.ownsRow w.heap.size 43 4 (.slice a' mm c') mm (krow G mm) ∧ Below w.heap.size w w' := by
  rcases h with ⟨h, rfl, rfl, rfl, rfl, rfl, rfl, rfl, rfl, rfl⟩ | ⟨h, hno, rfl, rfl, rfl, rfl, rfl, rfl, rfl, rfl, rfl⟩ | ⟨h, i, hi, hx, hy, rfl, rfl, rfl, rfl, rfl, rfl, rfl, rfl, rfl⟩ | ⟨h, i, hi, hx, hy, rfl, rfl, rfl, rfl, hM, rfl⟩
  · exact implUse_bad _ _ _ _ c _ x y w hm (.inr ⟨b, 0, rfl, hf⟩) hw h
  · exact implUse_none _ _ _ _ c _ x y w hm (.inr ⟨b, 0, rfl, hf⟩) hw wx h ((FA.lk (tOk_asc (tabB_tOk h))).2.2 x hno)
  · obtain ⟨a0, a1, a2, a3, hM⟩ := tupAsk G i
    refine implUse_other _ _ _ _ c _ x y w hm (.inr ⟨b, 0, rfl, hf⟩) hw wx h a0 a1 a2 a3 ?_ ?_
    · have := lkK_at (tOk_asc (tabB_tOk h)) hi
      rw [hx] at this
      exact this.trans (congrArg some hM)
    · rw [hM] at hy; exact bne_iff_ne.2 hy
  · have e : z1 = y := by rw [hM] at hy; exact hy
    subst e
    exact implUse_done _ _ _ _ c _ x w hm (.inr ⟨b, 0, rfl, hf⟩) hw wx h z0 z1 z2 z3 i hi hM (by rw [hM] at hx; exact hx)
end Go.Proofs.Ytgfhcilhibbooaa
namespace Go.Proofs.Ytgfhcilhibbooaa
open Go.RowKit
set_option linter.unusedVariables false
set_option maxHeartbeats 8000000 in
theorem specUse_badO (ep us : Int) (A : Option Addr) (n c : Nat) (M : Nat → KT) (x y : Int) (w : World) (hm : n ≤ maxLen) (hf : FromsO w A M n c) (ht : tabB ep us M n = false) :
    Calls Try.prog 16 #[.agg #[.int .i64 ep, .int .i64 us, .slice A n c], .int .i64 x, .int .i64 y] w fun e w' => ∃ a' c', e = .returned (.tuple #[.agg #[.int .i64 0, .int .i64 0, .slice a' 0 c'], .agg #[.int .i64 0, .int .i64 0, .int .i64 0, .int .i64 0], .int .i64 1]) ∧ w'.ownsRow w.heap.size 43 4 (.slice a' 0 c') 0 (krow M 0) ∧ Below w.heap.size w w' := by
  have N := ((IB3.new w ep us A n c 39).below (Below.nw _ (.cells #[.int .i64 0, .int .i64 0, .slice none 0 0] 39))).below (Below.nw _ (.cells #[.int .i64 0, .int .i64 0, .int .i64 0, .int .i64 0] 43))
  have R := (Bx3.new (w.alloc (.cells #[.int .i64 ep, .int .i64 us, .slice A n c] 39)) (.int .i64 0) (.int .i64 0) (.slice none 0 0) 39).below (Below.nw _ (.cells #[.int .i64 0, .int .i64 0, .int .i64 0, .int .i64 0] 43))
  have R2 := Bf4.new ((w.alloc (.cells #[.int .i64 ep, .int .i64 us, .slice A n c] 39)).alloc (.cells #[.int .i64 0, .int .i64 0, .slice none 0 0] 39)) 0 0 0 0 43
  have CS := ((hf.below (Below.nw w (.cells #[.int .i64 ep, .int .i64 us, .slice A n c] 39))).below (Below.nw _ (.cells #[.int .i64 0, .int .i64 0, .slice none 0 0] 39))).below (Below.nw _ (.cells #[.int .i64 0, .int .i64 0, .int .i64 0, .int .i64 0] 43))
  have A1 := Below.nw w (.cells #[.int .i64 ep, .int .i64 us, .slice A n c] 39)
  have A2 := A1.alloc A1.size (.cells #[.int .i64 0, .int .i64 0, .slice none 0 0] 39)
  have B := A2.alloc A2.size (.cells #[.int .i64 0, .int .i64 0, .int .i64 0, .int .i64 0] 43)
  simp only [World.size_alloc] at R R2
  have C := specTab_any ep us A n c M _ hm CS.src
  clear hf A1 A2
  go_enter Try.func16, Try.ntmps16
  go_upto_region 1 with fail
  generalize ((w.alloc (.cells #[.int .i64 ep, .int .i64 us, .slice A n c] 39)).alloc (.cells #[.int .i64 0, .int .i64 0, .slice none 0 0] 39)).alloc (.cells #[.int .i64 0, .int .i64 0, .int .i64 0, .int .i64 0] 43) = wa at *
  have hJ1 : w.heap.size + 1 + 1 < wa.heap.size := R2.1.1
  obtain ⟨n9, n0, n1, n2⟩ := id N
  go_wp2_with fail
  refine C.mono ?_
  rintro e wz ⟨rfl, hb⟩
  clear n9 n0 n1 n2
  replace N := N.below hb
  replace R := R.below hb
  replace R2 := R2.below hb
  replace CS := CS.below hb
  replace B := B.trans (hb.mono B.size)
  have hzz := hb.size
  clear hb C
  rw [ht]
  have P1 := put3_butK wz (w.heap.size + 1) (.int .i64 0) (.int .i64 0) (.slice none 0 0)
  have RQ := R.set (.int .i64 0) (.int .i64 0) (.slice none 0 0)
  have P2 := put4_but (((wz.setCell ⟨w.heap.size + 1, 0, none⟩ (.int .i64 0)).setCell ⟨w.heap.size + 1, 1, none⟩ (.int .i64 0)).setCell ⟨w.heap.size + 1, 2, none⟩ (.slice none 0 0)) (w.heap.size + 1 + 1) 0 0 0 0
  have RQ2 := (R2.but P1 (by omega)).set 0 0 0 0
  replace RQ := RQ.but P2 (by omega)
  have BQ1 := B.trans (P1.below (B := w.heap.size) (by omega) B.size)
  have BQ := BQ1.trans (P2.below (B := w.heap.size) (by omega) BQ1.size)
  have OQ := World.ownsRow_nil (put4 (((wz.setCell ⟨w.heap.size + 1, 0, none⟩ (.int .i64 0)).setCell ⟨w.heap.size + 1, 1, none⟩ (.int .i64 0)).setCell ⟨w.heap.size + 1, 2, none⟩ (.slice none 0 0)) (w.heap.size + 1 + 1) 0 0 0 0) w.heap.size 43 4
  have KZ : Hid (World.ownsRow _ _ _ _ _ _ _ ∧ Below _ _ _) := ⟨OQ, BQ⟩
  obtain ⟨r0, r1, r2, r3, r4, r5, r6⟩ := R
  obtain ⟨⟨f0, f1, f2, f3, f4⟩, f5, f6, f7, f8⟩ := R2
  clear P1 P2 BQ1 BQ OQ
  unfold put4 at RQ RQ2 KZ
  go_wp2_with fail
  clear r0 r1 r2 r3 r4 r5 r6 f0 f1 f2 f3 f4 f5 f6 f7 f8
  generalize (((((((wz.setCell ⟨w.heap.size + 1, 0, none⟩ (.int .i64 0)).setCell ⟨w.heap.size + 1, 1, none⟩ (.int .i64 0)).setCell ⟨w.heap.size + 1, 2, none⟩ (.slice none 0 0)).setCell ⟨w.heap.size + 1 + 1, 0, none⟩ (.int .i64 0)).setCell ⟨w.heap.size + 1 + 1, 1, none⟩ (.int .i64 0)).setCell ⟨w.heap.size + 1 + 1, 2, none⟩ (.int .i64 0)).setCell ⟨w.heap.size + 1 + 1, 3, none⟩ (.int .i64 0)) = wq at *
  obtain ⟨q0, q1, q2, q3, -, -, -⟩ := RQ
  obtain ⟨⟨g0, g1, g2, g3, g4⟩, -, -, -, -⟩ := RQ2
  exact bodyPost_ret (v := .tuple #[.agg #[.int .i64 0, .int .i64 0, .slice none 0 0], .agg #[.int .i64 0, .int .i64 0, .int .i64 0, .int .i64 0], .int .i64 1]) (by simp (maxDischargeDepth := 6) [results, Try.results16, go_sem, q1, q2, q3, g1, g2, g3, g4]) rfl ⟨_, _, rfl, KZ.out.1, KZ.out.2⟩
set_option maxRecDepth 100000 in
set_option maxHeartbeats 8000000 in
theorem specUse_nil (ep us : Int) (M : Nat → KT) (x y : Int) (w : World) (ht : tabB ep us M 0 = true) :
    Calls Try.prog 16 #[.agg #[.int .i64 ep, .int .i64 us, .slice none 0 0], .int .i64 x, .int .i64 y] w fun e w' => ∃ a' c', e = .returned (.tuple #[.agg #[.int .i64 ep, .int .i64 us, .slice a' 0 c'], .agg #[.int .i64 0, .int .i64 0, .int .i64 0, .int .i64 0], .int .i64 4]) ∧ w'.ownsRow w.heap.size 43 4 (.slice a' 0 c') 0 (krow M 0) ∧ Below w.heap.size w w' := by
  have hf : FromsO w none M 0 0 := .inl ⟨rfl, rfl, rfl⟩
  obtain ⟨i0, hi, hz0, hz1, hz2⟩ := infoK_parts
  have N := ((IB3.new w ep us none 0 0 39).below (Below.nw _ (.cells #[.int .i64 0, .int .i64 0, .slice none 0 0] 39))).below (Below.nw _ (.cells #[.int .i64 0, .int .i64 0, .int .i64 0, .int .i64 0] 43))
  have R := (Bx3.new (w.alloc (.cells #[.int .i64 ep, .int .i64 us, .slice none 0 0] 39)) (.int .i64 0) (.int .i64 0) (.slice none 0 0) 39).below (Below.nw _ (.cells #[.int .i64 0, .int .i64 0, .int .i64 0, .int .i64 0] 43))
  have R2 := Bf4.new ((w.alloc (.cells #[.int .i64 ep, .int .i64 us, .slice none 0 0] 39)).alloc (.cells #[.int .i64 0, .int .i64 0, .slice none 0 0] 39)) 0 0 0 0 43
  have CS := ((hf.below (Below.nw w (.cells #[.int .i64 ep, .int .i64 us, .slice none 0 0] 39))).below (Below.nw _ (.cells #[.int .i64 0, .int .i64 0, .slice none 0 0] 39))).below (Below.nw _ (.cells #[.int .i64 0, .int .i64 0, .int .i64 0, .int .i64 0] 43))
  have A1 := Below.nw w (.cells #[.int .i64 ep, .int .i64 us, .slice none 0 0] 39)
  have A2 := A1.alloc A1.size (.cells #[.int .i64 0, .int .i64 0, .slice none 0 0] 39)
  have B := A2.alloc A2.size (.cells #[.int .i64 0, .int .i64 0, .int .i64 0, .int .i64 0] 43)
  simp only [World.size_alloc] at R R2
  have C := specTab_any ep us none 0 0 M _ (by simp [maxLen]) CS.src
  clear hf A1 A2
  go_enter Try.func16, Try.ntmps16
  go_upto_region 1 with fail
  generalize ((w.alloc (.cells #[.int .i64 ep, .int .i64 us, .slice none 0 0] 39)).alloc (.cells #[.int .i64 0, .int .i64 0, .slice none 0 0] 39)).alloc (.cells #[.int .i64 0, .int .i64 0, .int .i64 0, .int .i64 0] 43) = wa at *
  have hJ1 : w.heap.size + 1 + 1 < wa.heap.size := R2.1.1
  obtain ⟨n9, n0, n1, n2⟩ := id N
  go_wp2_with fail
  refine C.mono ?_
  rintro e wz ⟨rfl, hb⟩
  clear n9 n0 n1 n2
  replace N := N.below hb
  replace R := R.below hb
  replace R2 := R2.below hb
  replace CS := CS.below hb
  replace B := B.trans (hb.mono B.size)
  have hzz := hb.size
  clear hb C
  rw [ht]
  clear ht
  have A3 := Below.nw wz (.cells #[.int .i64 ep, .int .i64 us, .slice none 0 0] 39)
  have A4 := Below.nw (wz.alloc (.cells #[.int .i64 ep, .int .i64 us, .slice none 0 0] 39)) (.cells #[.int .i64 0, .int .i64 0, .int .i64 0, .int .i64 0] 43)
  have O := (Bx3.new wz (.int .i64 ep) (.int .i64 us) (.slice none 0 0) 39).below A4
  have Fx := Bf4.new (wz.alloc (.cells #[.int .i64 ep, .int .i64 us, .slice none 0 0] 39)) 0 0 0 0 43
  simp only [World.size_alloc] at Fx
  obtain ⟨n9, n0, n1, n2⟩ := id N
  have hjo : w.heap.size + 1 + 1 < wz.heap.size := by omega
  go_upto_region 6 with fail
  clear n9 n0 n1 n2
  replace N := (N.below A3).below A4
  replace R := (R.below A3).below A4
  replace R2 := (R2.below A3).below A4
  replace CS := (CS.below A3).below A4
  replace B := (B.trans (A3.mono B.size)).trans (A4.mono (B.trans (A3.mono B.size)).size)
  clear A3 A4
  generalize wz.heap.size = bo at *
  generalize (wz.alloc (.cells #[.int .i64 ep, .int .i64 us, .slice none 0 0] 39)).alloc (.cells #[.int .i64 0, .int .i64 0, .int .i64 0, .int .i64 0] 43) = v1 at *
  go_wp2_with fail
  go_loopw [11, 12] (fun s11 s12 wr => s12 = .int .i64 0 ∧ s11 = .int .i64 4 ∧ v1 = wr) (fun _ _ _ => 0)
  case atStart => exact ⟨rfl, rfl, rfl⟩
  case round =>
    obtain ⟨rfl, rfl, rfl⟩ := hrel
    obtain ⟨n0, n1, n2, n3⟩ := id N
    go_wp2_with fail
    refine (l7Copy_opt ep us none 0 0 M _ (by omega) CS).mono ?_
    rintro e w6 ⟨a', c', rfl, OW, hb6⟩
    have hw5 : w.heap.size + 1 + 1 < v1.heap.size := R2.1.1
    replace R := R.below hb6
    replace R2 := R2.below hb6
    have hw56 : w.heap.size ≤ v1.heap.size := by omega
    replace B := B.trans (hb6.mono B.size)
    clear hb6 CS N n0 n1 n2 n3
    have P1 := put3_butK w6 (w.heap.size + 1) (.int .i64 ep) (.int .i64 us) (.slice a' 0 c')
    have RQ := R.set (.int .i64 ep) (.int .i64 us) (.slice a' 0 c')
    have P2 := put4_but (((w6.setCell ⟨w.heap.size + 1, 0, none⟩ (.int .i64 ep)).setCell ⟨w.heap.size + 1, 1, none⟩ (.int .i64 us)).setCell ⟨w.heap.size + 1, 2, none⟩ (.slice a' 0 c')) (w.heap.size + 1 + 1) 0 0 0 0
    have RQ2 := (R2.but P1 (by omega)).set 0 0 0 0
    replace RQ := RQ.but P2 (by omega)
    have BQ1 := B.trans (P1.below (B := w.heap.size) (by omega) B.size)
    have BQ := BQ1.trans (P2.below (B := w.heap.size) (by omega) BQ1.size)
    have OQ := ownK_le (base' := w.heap.size) (own_butK (own_butK OW P1 (by omega)) P2 (by omega)) hw56
    have KZ : Hid (World.ownsRow _ _ _ _ _ _ _ ∧ Below _ _ _) := ⟨OQ, BQ⟩
    obtain ⟨r0, r1, r2, r3, r4, r5, r6⟩ := R
    obtain ⟨⟨f0, f1, f2, f3, f4⟩, f5, f6, f7, f8⟩ := R2
    clear P1 P2 BQ1 BQ OQ
    unfold put4 at RQ RQ2 KZ
    go_wp2_with fail
    clear r0 r1 r2 r3 r4 r5 r6 f0 f1 f2 f3 f4 f5 f6 f7 f8
    generalize (((((((w6.setCell ⟨w.heap.size + 1, 0, none⟩ (.int .i64 ep)).setCell ⟨w.heap.size + 1, 1, none⟩ (.int .i64 us)).setCell ⟨w.heap.size + 1, 2, none⟩ (.slice a' 0 c')).setCell ⟨w.heap.size + 1 + 1, 0, none⟩ (.int .i64 0)).setCell ⟨w.heap.size + 1 + 1, 1, none⟩ (.int .i64 0)).setCell ⟨w.heap.size + 1 + 1, 2, none⟩ (.int .i64 0)).setCell ⟨w.heap.size + 1 + 1, 3, none⟩ (.int .i64 0)) = wq at *
    obtain ⟨q0, q1, q2, q3, -, -, -⟩ := RQ
    obtain ⟨⟨g0, g1, g2, g3, g4⟩, -, -, -, -⟩ := RQ2
    exact bodyPost_ret (v := .tuple #[.agg #[.int .i64 ep, .int .i64 us, .slice a' 0 c'], .agg #[.int .i64 0, .int .i64 0, .int .i64 0, .int .i64 0], .int .i64 4]) (by simp (maxDischargeDepth := 6) [results, Try.results16, go_sem, q1, q2, q3, g1, g2, g3, g4]) rfl ⟨_, _, rfl, KZ.out.1, KZ.out.2⟩
/- Use of a table whose row is one's own, the specification's and the program's. -/
theorem specUse_own (ep us : Int) (base : Nat) (A : Option Addr) (n c : Nat) (M : Nat → KT) (x y Xe Xu : Int) (mm : Nat) (G : Nat → KT) (z0 z1 z2 z3 C1 : Int) (w : World) (hm : n ≤ 900) (O : w.ownsRow base 43 4 (.slice A n c) n (krow M n)) (h : UseIs ep us M n x y Xe Xu mm G z0 z1 z2 z3 C1) :
    Calls Try.prog 16 #[.agg #[.int .i64 ep, .int .i64 us, .slice A n c], .int .i64 x, .int .i64 y] w fun e w' => ∃ a' c', e = .returned (.tuple #[.agg #[.int .i64 Xe, .int .i64 Xu, .slice a' mm c'], .agg #[.int .i64 z0, .int .i64 z1, .int .i64 z2, .int .i64 z3], .int .i64 C1]) ∧ w'.ownsRow w.heap.size 43 4 (.slice a' mm c') mm (krow G mm) ∧ Below w.heap.size w w' := by
  have hmx : n ≤ maxLen := by unfold maxLen; omega
  rcases O.2 with ⟨he, h0⟩ | ⟨g, cap, cur, he, _, hg, _⟩
  · simp at he
    obtain ⟨rfl, rfl, rfl⟩ := he
    rcases h with ⟨h, rfl, rfl, rfl, rfl, rfl, rfl, rfl, rfl, rfl⟩ | ⟨h, hno, rfl, rfl, rfl, rfl, rfl, rfl, rfl, rfl, rfl⟩ | ⟨h, i, hi, _⟩ | ⟨h, i, hi, _⟩
    · exact specUse_badO _ _ _ _ 0 _ x y w hmx (.inl ⟨rfl, rfl, rfl⟩) h
    · exact specUse_nil _ _ _ x y w h
    · omega
    · omega
  · simp at he
    obtain ⟨rfl, _⟩ := he
    refine specUse_ans ep us g n c M x y Xe Xu mm G z0 z1 z2 z3 C1 w hmx ?_ h
    by_cases h0 : n = 0
    · subst h0
      exact ⟨(Array.getElem?_eq_some_iff.1 hg).1, fun j hj => by omega⟩
    · obtain ⟨b, off, e, CS⟩ := own_at7 O (by omega)
      simp only [Option.some.injEq, Addr.mk.injEq, and_true] at e
      obtain ⟨rfl, rfl⟩ := e
      exact CS
theorem implUse_own (ep us : Int) (base : Nat) (A : Option Addr) (n c : Nat) (M : Nat → KT) (x y Xe Xu : Int) (mm : Nat) (G : Nat → KT) (z0 z1 z2 z3 C1 : Int) (w : World) (hm : n ≤ 900) (O : w.ownsRow base 43 4 (.slice A n c) n (krow M n)) (hw : ∀ i, i < n → (Lit.int .i64 (M i).1).wf = true) (wx : (Lit.int .i64 x).wf = true) (h : UseIs ep us M n x y Xe Xu mm G z0 z1 z2 z3 C1) :
    Calls Try.prog 17 #[.agg #[.int .i64 ep, .int .i64 us, .slice A n c], .int .i64 x, .int .i64 y] w fun e w' => ∃ a' c', e = .returned (.tuple #[.agg #[.int .i64 Xe, .int .i64 Xu, .slice a' mm c'], .agg #[.int .i64 z0, .int .i64 z1, .int .i64 z2, .int .i64 z3], .int .i64 C1]) ∧ w'.ownsRow w.heap.size 43 4 (.slice a' mm c') mm (krow G mm) ∧ Below w.heap.size w w' := by
  have hmx : n ≤ maxLen := by unfold maxLen; omega
  have hs := own_srcK O
  rcases h with ⟨h, rfl, rfl, rfl, rfl, rfl, rfl, rfl, rfl, rfl⟩ | ⟨h, hno, rfl, rfl, rfl, rfl, rfl, rfl, rfl, rfl, rfl⟩ | ⟨h, i, hi, hx, hy, rfl, rfl, rfl, rfl, rfl, rfl, rfl, rfl, rfl⟩ | ⟨h, i, hi, hx, hy, rfl, rfl, rfl, rfl, hM, rfl⟩
  · exact implUse_bad _ _ _ _ c _ x y w hmx hs hw h
  · exact implUse_none _ _ _ _ c _ x y w hmx hs hw wx h ((FA.lk (tOk_asc (tabB_tOk h))).2.2 x hno)
  · obtain ⟨a0, a1, a2, a3, hM⟩ := tupAsk G i
    refine implUse_other _ _ _ _ c _ x y w hmx hs hw wx h a0 a1 a2 a3 ?_ ?_
    · have := lkK_at (tOk_asc (tabB_tOk h)) hi
      rw [hx] at this
      exact this.trans (congrArg some hM)
    · rw [hM] at hy; exact bne_iff_ne.2 hy
  · have e : z1 = y := by rw [hM] at hy; exact hy
    subst e
    exact implUse_done _ _ _ _ c _ x w hmx hs hw wx h z0 z1 z2 z3 i hi hM (by rw [hM] at hx; exact hx)
end Go.Proofs.Ytgfhcilhibbooaa
namespace Go.Proofs.Ytgfhcilhibbooaa
open Go.RowKit
set_option linter.unusedVariables false
def wtN (x : Int) (M : Nat → KT) : Nat → Nat
  | 0 => 0
  | k + 1 => wtN x M k + (if (M k).2.1 = x then 1 else 0)
theorem wtN_le {x : Int} {M : Nat → KT} : ∀ k, wtN x M k ≤ k
  | 0 => Nat.le_refl _
  | k + 1 => by
    have := wtN_le (x := x) (M := M) k
    rw [wtN]
    split <;> omega
def wtI (ep us : Int) (M : Nat → KT) (n : Nat) (x : Int) : Int := bif tabB ep us M n then (wtN x M n : Int) else 0
theorem tabB_len {ep us : Int} {M : Nat → KT} {n : Nat} (h : tabB ep us M n = true) : n ≤ 16 := by
  rw [tabB] at h
  simp only [Bool.and_eq_true, decide_eq_true_eq] at h
  exact h.1.2
set_option maxHeartbeats 4000000 in
theorem implWaits_any (ep us : Int) (a : Option Addr) (n c : Nat) (M : Nat → KT) (x : Int) (w : World) (hm : n ≤ maxLen) (hf : SrcC w a (n * 4) (MFAsk M)) (hw : ∀ i, i < n → (Lit.int .i64 (M i).1).wf = true) :
    Calls Try.prog 19 #[.agg #[.int .i64 ep, .int .i64 us, .slice a n c], .int .i64 x] w fun e w' => e = .returned (.int .i64 (wtI ep us M n x)) ∧ Below w.heap.size w w' := by
  have A0 := Below.nw w (.cells #[.int .i64 ep, .int .i64 us, .slice a n c] 39)
  have N := IB3.new w ep us a n c 39
  have C := implTab_any ep us a n c M _ hm (hf.below A0) hw
  have HF : Hid (SrcC w a (n * 4) (MFAsk M)) := hf
  clear hf hw
  cases ht : tabB ep us M n
  · have HI : Hid (wtI ep us M n x = 0) := by rw [Hid, wtI, ht]; rfl
    rw [ht] at C
    clear ht
    go_enter Try.func19, Try.ntmps19
    go_wp2_with fail
    refine C.mono ?_
    rintro e w1 ⟨rfl, hb⟩
    have B := A0.trans (hb.mono A0.size)
    go_wp2_with fail
    go_ret
    exact ⟨congrArg (fun z => Ending.returned (Value.int .i64 z)) HI.out.symm, B⟩
  · have HI : Hid (wtI ep us M n x = (wtN x M n : Int)) := by rw [Hid, wtI, ht]; rfl
    have hn := tabB_len ht
    rw [ht] at C
    clear ht
    go_enter Try.func19, Try.ntmps19
    go_wp2_with fail
    refine C.mono ?_
    rintro e w1 ⟨rfl, hb⟩
    have B1 := A0.trans (hb.mono A0.size)
    replace N := N.below hb
    clear hb C
    generalize hj : w.heap.size = jt at *
    obtain ⟨n9, n0, n1, n2⟩ := id N
    go_wp2_with fail
    clear n9 n0 n1 n2
    go_loopw [5, 14] (fun q i wr => ∃ k : Nat, k ≤ n ∧ i = .int .i64 k ∧ q = .int .i64 (wtN x M k) ∧ Below jt w wr) (fun _ i _ => n - (intOf i).toNat)
    case atStart => exact ⟨0, Nat.zero_le _, rfl, rfl, B1⟩
    case round =>
      obtain ⟨k, hk, rfl, rfl, B⟩ := hrel
      have hwl := wtN_le (x := x) (M := M) k
      by_cases hlt : k < n
      · have hli : (k : Int) < (n : Int) := by omega
        rcases HF.out with h0 | ⟨b, off, rfl, hf⟩
        · omega
        have hbw := hf.1
        obtain ⟨x0, x1, x2, x3, hM⟩ := tupAsk M k
        obtain ⟨c0, c1, c2, c3⟩ := (hf.below B (by rw [← hj]; exact hbw)).elAsk hlt hM
        have HW : Hid (wtN x M (k + 1) = wtN x M k + (if x1 = x then 1 else 0)) := by rw [Hid, wtN, hM]
        clear hM hf
        generalize wtN x M k = q at *
        have B2 := B.trans ((Below.nw wr (.cells #[.int .i64 x0, .int .i64 x1, .int .i64 x2, .int .i64 x3] 43)).mono (hj ▸ B.size))
        by_cases hx : x1 = x
        · subst hx
          go_wp2_with fail
          go_roundw
          case rel => exact ⟨k + 1, by omega, by go_num, by rw [HW.out, if_pos rfl]; simp, B2⟩
          case measure => simp [intOf]; omega
        · go_wp2_with fail
          go_roundw
          case rel => exact ⟨k + 1, by omega, by go_num, by rw [HW.out, if_neg hx]; simp, B2⟩
          case measure => simp [intOf]; omega
      · have hkn : k = n := by omega
        subst hkn
        have hli : ¬ (k : Int) < (k : Int) := by omega
        go_wp2_with fail
        go_ret
        exact ⟨congrArg (fun z => Ending.returned (Value.int .i64 z)) HI.out.symm, B⟩
end Go.Proofs.Ytgfhcilhibbooaa
namespace Go.Proofs.Ytgfhcilhibbooaa
open Go.RowKit
set_option linter.unusedVariables false
theorem tOk_all {ep us : Int} {M : Nat → KT} : ∀ {n : Nat}, (∀ k, k < n → elB ep us M k = true) → tOk ep us M n = true
  | 0, _ => rfl
  | n + 1, h => by
    rw [tOk, tOk_all fun k hk => h k (by omega), h n (by omega)]; rfl
theorem cut_lo {M : Nat → KT} {i j : Nat} (h : j < i) : cutK M i j = M j := if_pos h
theorem cut_hi {M : Nat → KT} {i j : Nat} (h : ¬ j < i) : cutK M i j = M (j + 1) := if_neg h
theorem cut_is (M : Nat → KT) (i j : Nat) : ∃ m, cutK M i j = M m ∧ j ≤ m ∧ m ≤ j + 1 ∧ (j < i → m = j) ∧ (¬ j < i → m = j + 1) := by
  by_cases h : j < i
  · exact ⟨j, cut_lo h, by omega, by omega, fun _ => rfl, fun q => absurd h q⟩
  · exact ⟨j + 1, cut_hi h, by omega, by omega, fun q => absurd q h, fun _ => rfl⟩
theorem cut_asc {ep us : Int} {M : Nat → KT} {n i : Nat} (ht : tOk ep us M n = true) {j k : Nat} (hjk : j < k) (hk : k < n - 1) : (cutK M i j).1 < (cutK M i k).1 := by
  obtain ⟨m, e, h1, h2, h3, h4⟩ := cut_is M i j
  obtain ⟨m', e', h1', h2', h3', h4'⟩ := cut_is M i k
  rw [e, e']
  refine tOk_asc ht m m' ?_ (by omega)
  by_cases a : j < i
  · have := h3 a; omega
  · have := h4 a; have := h4' (by omega); omega
theorem cut_el {ep us : Int} {M : Nat → KT} {n i : Nat} (ht : tOk ep us M n = true) {k : Nat} (hk : k < n - 1) : elB ep us (cutK M i) k = true := by
  have hl : lsB (cutK M i) k = true := by
    cases k with
    | zero => rfl
    | succ k => exact decide_eq_true (cut_asc ht (Nat.lt_succ_self k) hk)
  obtain ⟨m, e, h1, h2, _, _⟩ := cut_is M i k
  have h := tOk_el ht (show m < n by omega)
  simp only [elB, Bool.and_eq_true] at h ⊢
  rw [e]
  exact ⟨⟨h.1.1, hl⟩, h.2⟩
theorem cut_tab {ep us : Int} {M : Nat → KT} {n i : Nat} (h : tabB ep us M n = true) : tabB ep us (cutK M i) (n - 1) = true := by
  have ht := tabB_tOk h
  have h2 := h
  simp only [tabB, Bool.and_eq_true, decide_eq_true_eq] at h2
  exact tabB_ok h2.1.1.1 h2.1.1.2 (by omega) (tOk_all fun k hk => cut_el ht hk)
theorem cut_no {ep us : Int} {M : Nat → KT} {n i : Nat} {x : Int} (h : tabB ep us M n = true) (hi : i < n) (hx : (M i).1 = x) : ∀ j, j < n - 1 → (cutK M i j).1 ≠ x := by
  intro j hj
  have A := tOk_asc (tabB_tOk h)
  by_cases a : j < i
  · rw [cut_lo a]; have := A j i a hi; omega
  · rw [cut_hi a]; have := A i (j + 1) (by omega) (by omega); omega
theorem wtN_congr {x : Int} {M H : Nat → KT} : ∀ {n : Nat}, (∀ j, j < n → M j = H j) → wtN x M n = wtN x H n
  | 0, _ => rfl
  | n + 1, h => by rw [wtN, wtN, wtN_congr fun j hj => h j (by omega), h n (by omega)]
theorem cut_wt {M : Nat → KT} {i : Nat} {y : Int} (hy : (M i).2.1 = y) : ∀ {n : Nat}, i < n → wtN y M n = wtN y (cutK M i) (n - 1) + 1
  | 0, h => by omega
  | m + 1, h => by
    by_cases e : i = m
    · subst e
      rw [wtN, if_pos hy, Nat.add_sub_cancel, wtN_congr (M := cutK M i) (H := M) fun j hj => cut_lo hj]
    · obtain ⟨q, rfl⟩ : ∃ q, m = q + 1 := ⟨m - 1, by omega⟩
      have ih := cut_wt hy (n := q + 1) (by omega)
      rw [Nat.add_sub_cancel] at ih ⊢
      rw [wtN, ih, wtN, cut_hi (by omega)]
      omega
theorem use_again {ep us : Int} {M : Nat → KT} {n i : Nat} {x y : Int} (h : tabB ep us M n = true) (hi : i < n) (hx : (M i).1 = x) : UseIs ep us (cutK M i) (n - 1) x y ep us (n - 1) (cutK M i) 0 0 0 0 4 :=
  .inr (.inl ⟨cut_tab h, cut_no h hi hx, rfl, rfl, rfl, rfl, rfl, rfl, rfl, rfl, rfl⟩)
theorem cut_wtI {ep us : Int} {M : Nat → KT} {n i : Nat} {y : Int} (h : tabB ep us M n = true) (hi : i < n) (hy : (M i).2.1 = y) : wtI ep us (cutK M i) (n - 1) y = wtI ep us M n y - 1 := by
  rw [wtI, wtI, cut_tab h, h, cond_true, cond_true, cut_wt hy hi]
  omega
set_option maxHeartbeats 8000000 in
theorem sameAsks_some (b off b' off' n c c' : Nat) (M : Nat → KT) (w : World) (hn : n ≤ 900) (hf : Cs w b off (n * 4) (MFAsk M)) (hg : Cs w b' off' (n * 4) (MFAsk M)) :
    Calls Try.prog 18 #[.slice (some ⟨b, off, none⟩) n c, .slice (some ⟨b', off', none⟩) n c'] w fun e w' => e = .returned (.bool true) ∧ Below w.heap.size w w' := by
  go_enter Try.func18, Try.ntmps18
  go_wp2_with fail
  go_loopw [5] (fun i wr => ∃ k : Nat, k ≤ n ∧ i = .int .i64 k ∧ Below w.heap.size w wr) (fun i _ => n - (intOf i).toNat)
  case atStart => exact ⟨0, Nat.zero_le _, rfl, Below.refl _ _⟩
  case round =>
    obtain ⟨k, hk, rfl, hB⟩ := hrel
    by_cases hlt : k < n
    · obtain ⟨x0, x1, x2, x3, hM⟩ := tupAsk M k
      obtain ⟨c0, c1, c2, c3⟩ := (hf.below hB hf.1).elAsk hlt hM
      obtain ⟨d0, d1, d2, d3⟩ := (hg.below hB hg.1).elAsk hlt hM
      have hb1 : b < wr.drew.heap.size := Nat.lt_of_lt_of_le hf.1 hB.size
      have hb2 : b' < wr.drew.heap.size := Nat.lt_of_lt_of_le hg.1 hB.size
      have hli : (k : Int) < (n : Int) := by omega
      clear hM
      go_wp2_with fail
      refine wp_region_held_drew (S := (fun w' => w'.cell? ⟨b, off + k * 4, none⟩ = some (.int .i64 x0) ∧ w'.cell? ⟨b, off + k * 4 + 1, none⟩ = some (.int .i64 x1) ∧ w'.cell? ⟨b, off + k * 4 + 2, none⟩ = some (.int .i64 x2) ∧ w'.cell? ⟨b, off + k * 4 + 3, none⟩ = some (.int .i64 x3) ∧ w'.cell? ⟨b', off' + k * 4, none⟩ = some (.int .i64 x0) ∧ w'.cell? ⟨b', off' + k * 4 + 1, none⟩ = some (.int .i64 x1) ∧ w'.cell? ⟨b', off' + k * 4 + 2, none⟩ = some (.int .i64 x2) ∧ w'.cell? ⟨b', off' + k * 4 + 3, none⟩ = some (.int .i64 x3))) (by kernel_rfl) ?_ (fun hHeld => ?_)
      · first | exact ⟨c0, c1, c2, c3, d0, d1, d2, d3⟩ | (simp (maxDischargeDepth := 6) [go_sem, *]; done)
      refine wpAnyH_take (i := 0) (v := ?_) (by rw [List.getElem?_toArray]; rfl) (by kernel_rfl) (by kernel_rfl) (by kernel_rfl) (by intro _ _ _ h; exact h) (Or.inl ⟨by rfl, ?_⟩) (by assumption) ?_
      rotate_left
      · (intro w hSw; (try dsimp only at hSw); go_simp; all_goals with_reducible rfl)
      (try simp only [Act.put, List.setIfInBounds_toArray, List.set_cons_zero, List.set_cons_succ])
      refine wpAnyH_take (i := 1) (v := ?_) (by rw [List.getElem?_toArray]; rfl) (by kernel_rfl) (by kernel_rfl) (by kernel_rfl) (by intro _ _ _ h; exact h) (Or.inl ⟨by rfl, ?_⟩) (by assumption) ?_
      rotate_left
      · (intro w hSw; (try dsimp only at hSw); go_simp; all_goals with_reducible rfl)
      (try simp only [Act.put, List.setIfInBounds_toArray, List.set_cons_zero, List.set_cons_succ])
      refine wpAnyH_take (i := 2) (v := ?_) (by rw [List.getElem?_toArray]; rfl) (by kernel_rfl) (by kernel_rfl) (by kernel_rfl) (by intro _ _ _ h; exact h) (Or.inl ⟨by rfl, ?_⟩) (by assumption) ?_
      rotate_left
      · (intro w hSw; (try dsimp only at hSw); go_simp; all_goals with_reducible rfl)
      (try simp only [Act.put, List.setIfInBounds_toArray, List.set_cons_zero, List.set_cons_succ])
      refine wpAnyH_take (i := 3) (v := ?_) (by rw [List.getElem?_toArray]; rfl) (by kernel_rfl) (by kernel_rfl) (by kernel_rfl) (by intro _ _ _ h; exact h) (Or.inl ⟨by rfl, ?_⟩) (by assumption) ?_
      rotate_left
      · (intro w hSw; (try dsimp only at hSw); go_simp; all_goals with_reducible rfl)
      (try simp only [Act.put, List.setIfInBounds_toArray, List.set_cons_zero, List.set_cons_succ])
      refine wpAnyH_take (i := 4) (v := ?_) (by rw [List.getElem?_toArray]; rfl) (by kernel_rfl) (by kernel_rfl) (by kernel_rfl) (by intro _ _ _ h; exact h) (Or.inl ⟨by rfl, ?_⟩) (by assumption) ?_
      rotate_left
      · (intro w hSw; (try dsimp only at hSw); go_simp; all_goals with_reducible rfl)
      (try simp only [Act.put, List.setIfInBounds_toArray, List.set_cons_zero, List.set_cons_succ])
      refine wpAnyH_take (i := 5) (v := ?_) (by rw [List.getElem?_toArray]; rfl) (by kernel_rfl) (by kernel_rfl) (by kernel_rfl) (by intro _ _ _ h; exact h) (Or.inl ⟨by rfl, ?_⟩) (by assumption) ?_
      rotate_left
      · (intro w hSw; (try dsimp only at hSw); go_simp; all_goals with_reducible rfl)
      (try simp only [Act.put, List.setIfInBounds_toArray, List.set_cons_zero, List.set_cons_succ])
      refine wpAnyH_take (i := 6) (v := ?_) (by rw [List.getElem?_toArray]; rfl) (by kernel_rfl) (by kernel_rfl) (by kernel_rfl) (by intro _ _ _ h; exact h) (Or.inl ⟨by rfl, ?_⟩) (by assumption) ?_
      rotate_left
      · (intro w hSw; (try dsimp only at hSw); go_simp; all_goals with_reducible rfl)
      (try simp only [Act.put, List.setIfInBounds_toArray, List.set_cons_zero, List.set_cons_succ])
      refine wpAnyH_take (i := 7) (v := ?_) (by rw [List.getElem?_toArray]; rfl) (by kernel_rfl) (by kernel_rfl) (by kernel_rfl) (by intro _ _ _ h; exact h) (Or.inl ⟨by rfl, ?_⟩) (by assumption) ?_
      rotate_left
      · (intro w hSw; (try dsimp only at hSw); go_simp; all_goals with_reducible rfl)
      (try simp only [Act.put, List.setIfInBounds_toArray, List.set_cons_zero, List.set_cons_succ])
      refine wpAnyH_take (i := 8) (v := ?_) (by rw [List.getElem?_toArray]; rfl) (by kernel_rfl) (by kernel_rfl) (by kernel_rfl) (by intro _ _ _ h; exact h) (Or.inl ⟨by rfl, ?_⟩) (by assumption) ?_
      rotate_left
      · (intro w hSw; (try dsimp only at hSw); go_simp; all_goals with_reducible rfl)
      (try simp only [Act.put, List.setIfInBounds_toArray, List.set_cons_zero, List.set_cons_succ])
      refine wpAnyH_done (by kernel_rfl) ?_ _
      (try go_wp2_with fail)
      go_roundw
      case rel => exact ⟨k + 1, by omega, by go_num, Below.drew hB⟩
      case measure => simp [intOf]; omega
    · have hkk : k = n := by omega
      subst hkk
      go_wp2_with fail
      go_ret
      exact ⟨rfl, hB⟩
theorem sameAsks_zero (a a' : Option Addr) (c c' : Nat) (w : World) :
    Calls Try.prog 18 #[.slice a 0 c, .slice a' 0 c'] w fun e w' => e = .returned (.bool true) ∧ Below w.heap.size w w' := by
  go_enter Try.func18, Try.ntmps18
  go_wp2_with fail
  go_loopw [5] (fun i wr => i = .int .i64 0 ∧ w = wr) (fun i _ => 0)
  case atStart => exact ⟨rfl, rfl⟩
  case round =>
    obtain ⟨rfl, rfl⟩ := hrel
    go_wp2_with fail
    go_ret
    exact ⟨rfl, Below.refl _ _⟩
theorem sameAsks_own {w : World} {b1 b2 n c c' : Nat} {a a' : Option Addr} {M : Nat → KT} (hn : n ≤ 900) (h1 : w.ownsRow b1 43 4 (.slice a n c) n (krow M n)) (h2 : w.ownsRow b2 43 4 (.slice a' n c') n (krow M n)) :
    Calls Try.prog 18 #[.slice a n c, .slice a' n c'] w fun e w' => e = .returned (.bool true) ∧ Below w.heap.size w w' := by
  by_cases h0 : n = 0
  · subst h0
    exact sameAsks_zero a a' c c' w
  · obtain ⟨b, off, rfl, C1⟩ := own_at7 h1 (by omega)
    obtain ⟨b', off', rfl, C2⟩ := own_at7 h2 (by omega)
    exact sameAsks_some b off b' off' n c c' M w hn C1 C2
end Go.Proofs.Ytgfhcilhibbooaa
namespace Go.Proofs.Ytgfhcilhibbooaa
open Go.RowKit
set_option linter.unusedVariables false
set_option maxHeartbeats 400000 in
theorem big_any (a : Option Addr) (n c : Nat) (w : World) :
    Calls Try.prog 5 #[.slice a n c] w fun e w' => e = .returned (.bool (decide (1048576 < (n : Int)))) ∧ w = w' := by
  go_enter Try.func5, Try.ntmps5
  go_wp2
  go_ret
  exact ⟨rfl, rfl⟩
set_option maxHeartbeats 400000 in
theorem at_any (a : Option Addr) (n c i B : Nat) (w : World) (hn : n ≤ 1048576) (hi : i ≤ 1000) (hcode : CodeB w B a n) :
    Calls Try.prog 13 #[.slice a n c, .int .i64 i] w fun e w' => ∃ x : Int, e = .returned (.int .i64 x) ∧ 0 ≤ x ∧ x ≤ 255 ∧ w = w' := by
  by_cases h : i < n
  · have hd : (i : Int) < (n : Int) := by omega
    rcases hcode with h0 | ⟨b, off, rfl, hb, hz⟩
    · omega
    · obtain ⟨z, hz, z0, z1⟩ := hz i h
      go_enter Try.func13, Try.ntmps13
      go_wp2_with fail
      go_ret
      exact ⟨z, rfl, z0, z1, rfl⟩
  · have hd : decide ((i : Int) < (n : Int)) = false := by simp; omega
    have hm := Int.emod_lt_of_pos ((i : Int) * 7 + n) (b := 256) (by omega)
    have hm0 := Int.emod_nonneg ((i : Int) * 7 + n) (b := 256) (by omega)
    clear hcode
    go_enter Try.func13, Try.ntmps13
    go_wp2_with fail
    go_ret
    exact ⟨_, rfl, by omega, by omega, rfl⟩
end Go.Proofs.Ytgfhcilhibbooaa
