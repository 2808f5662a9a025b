/- What the draw of any table leaves. -/
import Derived.Test.YtcaelkpjkmpheaaT71
import Derived.Deep.RegionHeld3
import Derived.Deep.DeepCutAuto
import Derived.WalkKit
import Derived.WalkSpells
import Derived.WalkLawsBesides
import Derived.Deep.RegionHeld
namespace Go.Proofs.Ytcaelkpjkmpheaa
open Go.RowKit
set_option linter.unusedVariables false
theorem CurOk.belB7 {w w' : World} {B p base : Nat} (h : CurOk w B p) (hb : Below base w w') (hp : p < base) : CurOk w' B p := by
  obtain ⟨a, n, c, i, hh, h0, h1, h2, f0, f1, f2, hi, hn, hc, hB, hpw⟩ := h
  refine ⟨a, n, c, i, hh, ?_, ?_, ?_, ?_, ?_, ?_, hi, hn, hc.below (hb.mono (by omega)), hB, Nat.lt_of_lt_of_le hpw hb.size⟩
  · rw [hb.cell (p := ⟨p, 0, none⟩) hp]; exact h0
  · rw [hb.cell (p := ⟨p, 1, none⟩) hp]; exact h1
  · rw [hb.cell (p := ⟨p, 2, none⟩) hp]; exact h2
  · rw [hb.frozen (p := ⟨p, 0, none⟩) hp]; exact f0
  · rw [hb.frozen (p := ⟨p, 1, none⟩) hp]; exact f1
  · rw [hb.frozen (p := ⟨p, 2, none⟩) hp]; exact f2
theorem But.then7 {p : Nat} {a w w' : World} (h : But p a w) (hb : Below a.heap.size w w') : But p a w' :=
  ⟨hb.os.trans h.1, hb.tape.trans h.2.1, hb.output.trans h.2.2.1, Nat.le_trans h.2.2.2.1 hb.size, fun k hk hp => (hb.block k hk).trans (h.2.2.2.2 k hk hp)⟩
theorem pickIn7 (B p : Nat) (w : World) (L : List Int) (hcur : CurOk w B p) (h0 : 0 < L.length) (h1 : L.length ≤ 100) :
    Calls Try.prog 59 #[.pointer (some ⟨p, 0, none⟩), .slice (some ⟨w.heap.size, 0, none⟩) L.length L.length] (w.alloc (.cells (L.map (Value.int .i64)).toArray 3)) fun e w' => ∃ v : Int, e = .returned (.int .i64 v) ∧ v ∈ L ∧ CurOk w' B p ∧ But p w w' := by
  have hb : Below w.heap.size w (w.alloc (.cells (L.map (Value.int .i64)).toArray 3)) := (Below.refl _ _).alloc (Nat.le_refl _) _
  have hl := hcur.lt
  refine (l1PickInt_any B p w.heap.size 0 L.length L.length _ (hcur.below hb) h0 h1 (by simp) (by omega) (fun j hj => ⟨L[j], by simp [hj]⟩)).mono ?_
  rintro e w' ⟨j, v, hj, hv, rfl, hc, hw⟩
  refine ⟨v, rfl, ?_, hc, (But.of_below hb).trans hw⟩
  simp [hj] at hv
  rw [← hv]
  exact List.getElem_mem hj
/- The table's row takes an ask more. -/
theorem Tw.kept {w0 w w' : World} {B p bt : Nat} {ep us : Int} {A : Option Addr} {n c : Nat} {M : Nat → KT} (h : Tw w0 B p bt w ep us A n c M) (hp : p < w0.heap.size) (hbt : w0.heap.size < bt) (hg : w.grownBy w' (Value.slice A n c).ownBlock) (H : ∀ g, (Value.slice A n c).ownBlock = some g → g ≠ bt) : Bx3 w' bt (.int .i64 ep) (.int .i64 us) (.slice A n c) ∧ Bx3 w' w0.heap.size (.int .i64 0) (.int .i64 0) (.slice none 0 0) ∧ CurOk w' B p ∧ But p w0 w' := by
  have hs : w0.heap.size + 1 ≤ w.heap.size := Nat.le_of_lt (Nat.lt_of_le_of_lt hbt h.1.1)
  have G := grown_belowK h.2.1 hg hs
  refine ⟨h.1.kept3 hg (fun e => H bt e.symm rfl), h.2.2.2.2.kept3 hg (fun e => ?_), CurOk.belB7 h.2.2.1 G (by omega), But.then7 h.2.2.2.1 (G.mono (by omega))⟩
  have := (World.ownsRow.lt h.2.1 _ e.symm).1
  omega
theorem Tw.of {w0 w : World} {B p bt : Nat} {ep us : Int} {A A' : Option Addr} {n c n' c' : Nat} {M : Nat → KT} (hp : p < w0.heap.size) (hB : B ≤ p) (hbt : w0.heap.size < bt) (h1 : Bx3 w bt (.int .i64 ep) (.int .i64 us) (.slice A n c)) (h2 : Bx3 w w0.heap.size (.int .i64 0) (.int .i64 0) (.slice none 0 0)) (h3 : CurOk w B p) (h4 : But p w0 w) (hn : 0 < n') (ho : w.ownsRow (w0.heap.size + 1) 34 4 (.slice A' n' c') n' (krow M n')) : Tw w0 B p bt (w.setCell ⟨bt, 2, none⟩ (.slice A' n' c')) ep us A' n' c' M :=
  ⟨h1.set2 _, own_neK ho (But.oneK _ _ _ _) (no_box ho hn h1), h3.setOther (by omega) (by omega) _ _, h4.newK (But.oneK _ _ _ _) (by omega), h2.but (But.oneK _ _ _ _) (by omega)⟩
def AnyDrawn (w : World) (B p : Nat) (e : Ending) (w' : World) : Prop := ∃ (ep us : Int) (A : Option Addr) (n c : Nat) (M : Nat → KT), e = .returned (.agg #[.int .i64 ep, .int .i64 us, .slice A n c]) ∧ n ≤ 17 ∧ kwf M n ∧ w'.ownsRow w.heap.size 34 4 (.slice A n c) n (krow M n) ∧ CurOk w' B p ∧ But p w w'
set_option maxRecDepth 100000 in
set_option maxHeartbeats 8000000 in
theorem l7DrawAny_any (B p : Nat) (w : World) (hcur : CurOk w B p) :
    Calls Try.prog 47 #[.pointer (some ⟨p, 0, none⟩)] w fun e w' => AnyDrawn w B p e w' := by
  obtain ⟨i0, hi, hz0, hz1, hz2⟩ := infoK_parts
  have hpl := hcur.lt
  have hp : p < w.heap.size := hpl.1
  have hB : B ≤ p := hpl.2
  have hpw : w.heap.size ≠ p := by omega
  have A1 := Below.nw w (.cells #[.int .i64 0, .int .i64 0, .slice none 0 0] 26)
  have R := Bx3.new w (.int .i64 0) (.int .i64 0) (.slice none 0 0) 26
  go_enter Try.func47, Try.ntmps47
  go_wp2_with fail
  refine (l7DrawTable_any B p _ (by exact hcur.below A1)).mono ?_
  rintro e w1 ⟨ep, us, A, n, c, M, rfl, ⟨e0, e1⟩, ⟨s0, s1⟩, hn, hk, O, c1, b1⟩
  simp only [World.size_alloc] at O
  replace R := R.but b1 hpw
  have q1 : But p w w1 := (But.of_below A1).trans b1
  have A2 := Below.nw w1 (.cells #[.int .i64 ep, .int .i64 us, .slice A n c] 26)
  have T : Tw w B p w1.heap.size (w1.alloc (.cells #[.int .i64 ep, .int .i64 us, .slice A n c] 26)) ep us A n c M := ⟨Bx3.new w1 _ _ _ _, own_belK' O A2, c1.below A2, q1.alloc _, R.below A2⟩
  have H : ∀ g, (Value.slice A n c).ownBlock = some g → g ≠ w1.heap.size := fun g hg => by have := (World.ownsRow.lt O g hg).2; omega
  have hbt : w.heap.size < w1.heap.size := R.1
  clear A1 A2 b1 q1 R c1 hcur O
  go_wp2_with fail
  generalize w1.heap.size = bt at *
  generalize w1.alloc (.cells #[.int .i64 ep, .int .i64 us, .slice A n c] 26) = v at *
  have hbp : bt ≠ p := by omega
  refine (l1Below_any B p 25 _ T.2.2.1).mono ?_
  rintro e v2 ⟨z, rfl, zl, zh, _, _, cc, bb⟩
  replace T := T.but cc bb hp hbt
  clear cc bb
  by_cases h0 : z = 0
  · subst h0
    obtain ⟨n0, n1, n2, n3, n4, n5, n6⟩ := id T.1
    go_wp2_with fail
    have hpk := pickIn7 B p _ [-1, 100001, ep + 1] T.2.2.1 (by simp) (by simp); simp only [List.map_cons, List.map_nil, List.length_cons, List.length_nil, Nat.zero_add, Nat.reduceAdd] at hpk; refine hpk.mono ?_; clear hpk; rintro e v3 ⟨y, rfl, ym, cc, bb⟩; clear ym
    replace T := T.but cc bb hp hbt
    clear cc bb n0 n1 n2 n3 n4 n5 n6
    have T2 := T.epoch hp hB hbt y H
    obtain ⟨n0, n1, n2, n3, n4, n5, n6⟩ := id T.1; obtain ⟨r0, r1, r2, r3, r4, r5, r6⟩ := id T.2.2.2.2
    go_wp2_with fail
    exact bodyPost_ret (v := .agg #[.int .i64 y, .int .i64 us, .slice A n c]) (by simp (maxDischargeDepth := 6) [results, Try.results47, go_sem, *]) rfl ⟨_, _, _, _, _, M, rfl, by omega, hk, Tw.result T2 hp hB⟩
  · by_cases h1 : z = 1
    · subst h1
      go_wp2_with fail
      have hpk := pickIn7 B p _ [-1, 1001, 0, 1000] T.2.2.1 (by simp) (by simp); simp only [List.map_cons, List.map_nil, List.length_cons, List.length_nil, Nat.zero_add, Nat.reduceAdd] at hpk; refine hpk.mono ?_; clear hpk; rintro e v3 ⟨y, rfl, ym, cc, bb⟩; clear ym
      replace T := T.but cc bb hp hbt
      clear cc bb
      have T2 := T.used hp hB hbt y H
      obtain ⟨n0, n1, n2, n3, n4, n5, n6⟩ := id T.1; obtain ⟨r0, r1, r2, r3, r4, r5, r6⟩ := id T.2.2.2.2
      go_wp2_with fail
      exact bodyPost_ret (v := .agg #[.int .i64 ep, .int .i64 y, .slice A n c]) (by simp (maxDischargeDepth := 6) [results, Try.results47, go_sem, *]) rfl ⟨_, _, _, _, _, M, rfl, by omega, hk, Tw.result T2 hp hB⟩
    · by_cases h2 : z = 2
      · subst h2
        obtain ⟨n0, n1, n2, n3, n4, n5, n6⟩ := id T.1
        go_upto_region 8 with fail
        refine wp_region_held_drew (S := (fun _ => True)) (by kernel_rfl) ?_ (fun hHeld => ?_)
        · exact trivial
        clear n0 n1 n2 n3 n4 n5 n6
        replace T := T.drew
        generalize v2.drew = v3 at *
        (obtain ⟨n0, n1, n2, n3, n4, n5, n6⟩ := id T.1)
        refine wpAnyH_take (i := 0) (v := ?_) (by rw [List.getElem?_toArray]; rfl) (by kernel_rfl) (by kernel_rfl) (by kernel_rfl) (by intro _ _ _ h; exact h) (Or.inl ⟨by rfl, ?_⟩) (by assumption) ?_
        rotate_left
        · (intro w hSw; (try dsimp only at hSw); go_simp; all_goals with_reducible rfl)
        (try simp only [Act.put, List.setIfInBounds_toArray, List.set_cons_zero, List.set_cons_succ])
        refine wpAnyH_take (i := 2) (v := ?_) (by rw [List.getElem?_toArray]; rfl) (by kernel_rfl) (by kernel_rfl) (by kernel_rfl) (by intro _ _ _ h; exact h) (Or.inl ⟨by rfl, ?_⟩) (by assumption) ?_
        rotate_left
        · (intro w hSw; (try dsimp only at hSw); go_simp; all_goals with_reducible rfl)
        (try simp only [Act.put, List.setIfInBounds_toArray, List.set_cons_zero, List.set_cons_succ])
        refine wpAnyH_take (i := 4) (v := ?_) (by rw [List.getElem?_toArray]; rfl) (by kernel_rfl) (by kernel_rfl) (by kernel_rfl) (by intro _ _ _ h; exact h) (Or.inl ⟨by rfl, ?_⟩) (by assumption) ?_
        rotate_left
        · (intro w hSw; (try dsimp only at hSw); go_simp; all_goals with_reducible rfl)
        (try simp only [Act.put, List.setIfInBounds_toArray, List.set_cons_zero, List.set_cons_succ])
        refine wpAnyH_ready (rs := [1, 3]) (by kernel_rfl) (by simp) ?_
        refine (AllReadyH.cons (by rw [List.getElem?_toArray]; rfl) (fun K hK => ?_) (AllReadyH.cons (by rw [List.getElem?_toArray]; rfl) (fun K hK => ?_) AllReadyH.nil))
        · go_simp
          refine hK.out _ _ ?_ (fun hHeld => ?_)
          · exact trivial
          clear hK K
          (try simp only [Act.put, List.setIfInBounds_toArray, List.set_cons_zero, List.set_cons_succ])
          refine wpAnyH_ready (rs := [3]) (by kernel_rfl) (by simp) ?_
          refine (AllReadyH.cons (by rw [List.getElem?_toArray]; rfl) (fun K hK => ?_) AllReadyH.nil)
          go_simp
          refine (l1Below_any B p 9 _ T.2.2.1).mono ?_; rintro e v4 ⟨x1, rfl, x1l, x1h, _, _, cc, bb⟩; clear n0 n1 n2 n3 n4 n5 n6; (replace T := T.but cc bb hp hbt); clear cc bb; (obtain ⟨n0, n1, n2, n3, n4, n5, n6⟩ := id T.1)
          (try go_wp2_with fail)
          refine hK.out _ _ ?_ (fun hHeld => ?_)
          · exact trivial
          clear hK K
          (try simp only [Act.put, List.setIfInBounds_toArray, List.set_cons_zero, List.set_cons_succ])
          refine wpAnyH_ready (rs := [5]) (by kernel_rfl) (by simp) ?_
          refine (AllReadyH.cons (by rw [List.getElem?_toArray]; rfl) (fun K hK => ?_) AllReadyH.nil)
          go_simp
          refine (l1Below_any B p 6 _ T.2.2.1).mono ?_; rintro e v5 ⟨x2, rfl, x2l, x2h, _, _, cc, bb⟩; clear n0 n1 n2 n3 n4 n5 n6; (replace T := T.but cc bb hp hbt); clear cc bb; (obtain ⟨n0, n1, n2, n3, n4, n5, n6⟩ := id T.1)
          (try go_wp2_with fail)
          refine hK.out _ _ ?_ (fun hHeld => ?_)
          · exact trivial
          clear hK K
          (try simp only [Act.put, List.setIfInBounds_toArray, List.set_cons_zero, List.set_cons_succ])
          refine wpAnyH_take (i := 6) (v := ?_) (by rw [List.getElem?_toArray]; rfl) (by kernel_rfl) (by kernel_rfl) (by kernel_rfl) (by intro _ _ _ h; exact h) (Or.inl ⟨by rfl, ?_⟩) (by assumption) ?_
          rotate_left
          · (intro w hSw; (try dsimp only at hSw); go_simp; all_goals with_reducible rfl)
          (try simp only [Act.put, List.setIfInBounds_toArray, List.set_cons_zero, List.set_cons_succ])
          refine wpAnyH_ready (rs := [7]) (by kernel_rfl) (by simp) ?_
          refine (AllReadyH.cons (by rw [List.getElem?_toArray]; rfl) (fun K hK => ?_) AllReadyH.nil)
          go_simp
          clear n0 n1 n2 n3 n4 n5 n6; (have bb := Below.nw v5 (.cells #[.int .i64 5, .int .i64 x1, .int .i64 0, .int .i64 x2] 34)); (have HN : Hid (∀ j u, (show List Value from [.int .i64 5, .int .i64 x1, .int .i64 0, .int .i64 x2])[j]? = some u → (v5.alloc (.cells #[.int .i64 5, .int .i64 x1, .int .i64 0, .int .i64 x2] 34)).cell? ((⟨v5.heap.size, 0, none⟩ : Addr).add j) = some u) := fun j u hj => four_at v5 5 x1 0 x2 34 j u hj); (replace T := T.below bb); clear bb; generalize v5.heap.size = jb at *; generalize v5.alloc (.cells #[.int .i64 5, .int .i64 x1, .int .i64 0, .int .i64 x2] 34) = v6 at *; (have hsz : w.heap.size + 1 ≤ v6.heap.size := Nat.le_of_lt (Nat.lt_of_le_of_lt hbt T.1.1)); (obtain ⟨n0, n1, n2, n3, n4, n5, n6⟩ := id T.1)
          refine hK.out _ _ ?_ (fun hHeld => ?_)
          · exact trivial
          clear hK K
          (try simp only [Act.put, List.setIfInBounds_toArray, List.set_cons_zero, List.set_cons_succ])
          refine wpAnyH_ready (rs := [8]) (by kernel_rfl) (by simp) ?_
          refine (AllReadyH.cons (by rw [List.getElem?_toArray]; rfl) (fun K hK => ?_) AllReadyH.nil)
          rw [if_pos (by rfl)]; clear n0 n1 n2 n3 n4 n5 n6; refine wp_append_own _ _ _ 24 rfl (w.heap.size + 1) 34 i0 (.agg #[.int .i64 0, .int .i64 0, .int .i64 0, .int .i64 0]) 4 32 Try.underlying24 hi hz0 hz1 hz2 rfl (by decide) _ _ _ rfl T.2.1 ⟨jb, 0, none⟩ 1 1 [.int .i64 5, .int .i64 x1, .int .i64 0, .int .i64 x2] rfl rfl HN.out (four_one _ _ _ _) (by unfold maxLen; omega) (by omega) hsz ?_; intro v' wn hown' hgrow _; (have KP := T.kept hp hbt hgrow H); clear hgrow HN hsz T; (have HR : krow M n ++ [.int .i64 5, .int .i64 x1, .int .i64 0, .int .i64 x2] = krow (addG M n (kT 5 x1 0 x2)) (n + 1) := by (have e : krow M n = krow (addG M n (kT 5 x1 0 x2)) n := krow_congr fun j hj => (if_neg (by omega)).symm); rw [e]; exact krow_add (if_pos rfl)); rw [HR] at hown'; clear HR; (obtain ⟨a', c', rfl, _, _, _⟩ := ownF_src hown'); (obtain ⟨n0, n1, n2, n3, n4, n5, n6⟩ := id KP.1)
          refine hK.out _ _ ?_ (fun hHeld => ?_)
          · exact trivial
          clear hK K
          (try simp only [Act.put, List.setIfInBounds_toArray, List.set_cons_zero, List.set_cons_succ])
          refine wpAnyH_take (i := 9) (v := ?_) (by rw [List.getElem?_toArray]; rfl) (by kernel_rfl) (by kernel_rfl) (by kernel_rfl) (by intro _ _ _ h; exact h) (Or.inl ⟨by rfl, ?_⟩) (by assumption) ?_
          rotate_left
          · (intro w hSw; (try dsimp only at hSw); go_simp; all_goals with_reducible rfl)
          (try simp only [Act.put, List.setIfInBounds_toArray, List.set_cons_zero, List.set_cons_succ])
          refine wpAnyH_ready (rs := [10]) (by kernel_rfl) (by simp) ?_
          refine (AllReadyH.cons (by rw [List.getElem?_toArray]; rfl) (fun K hK => ?_) AllReadyH.nil)
          go_simp
          refine hK.out _ _ ?_ (fun hHeld => ?_)
          · exact trivial
          clear hK K
          (try simp only [Act.put, List.setIfInBounds_toArray, List.set_cons_zero, List.set_cons_succ])
          refine wpAnyH_done (by kernel_rfl) ?_ _
          have T := Tw.of hp hB hbt KP.1 KP.2.1 KP.2.2.1 KP.2.2.2 (Nat.succ_pos n) hown'
          have hk2 : kwf (addG M n (kT 5 x1 0 x2)) (n + 1) := kwf_add hk (by decide) ⟨x1l, x1h⟩
          generalize hGG : addG M n (kT 5 x1 0 x2) = G at *
          clear KP hown' n0 n1 n2 n3 n4 n5 n6
          generalize wn.setCell ⟨bt, 2, none⟩ (.slice a' (n + 1) c') = v8 at *
          obtain ⟨n0, n1, n2, n3, n4, n5, n6⟩ := id T.1; obtain ⟨r0, r1, r2, r3, r4, r5, r6⟩ := id T.2.2.2.2
          go_wp2_with fail
          exact bodyPost_ret (v := .agg #[.int .i64 ep, .int .i64 us, .slice a' (n + 1) c']) (by simp (maxDischargeDepth := 6) [results, Try.results47, go_sem, *]) rfl ⟨_, _, _, _, _, G, rfl, by omega, hk2, Tw.result T hp hB⟩
        · go_simp
          refine (l1Below_any B p 9 _ T.2.2.1).mono ?_; rintro e v4 ⟨x1, rfl, x1l, x1h, _, _, cc, bb⟩; clear n0 n1 n2 n3 n4 n5 n6; (replace T := T.but cc bb hp hbt); clear cc bb; (obtain ⟨n0, n1, n2, n3, n4, n5, n6⟩ := id T.1)
          (try go_wp2_with fail)
          refine hK.out _ _ ?_ (fun hHeld => ?_)
          · exact trivial
          clear hK K
          (try simp only [Act.put, List.setIfInBounds_toArray, List.set_cons_zero, List.set_cons_succ])
          refine wpAnyH_ready (rs := [1, 5]) (by kernel_rfl) (by simp) ?_
          refine (AllReadyH.cons (by rw [List.getElem?_toArray]; rfl) (fun K hK => ?_) (AllReadyH.cons (by rw [List.getElem?_toArray]; rfl) (fun K hK => ?_) AllReadyH.nil))
          · go_simp
            refine hK.out _ _ ?_ (fun hHeld => ?_)
            · exact trivial
            clear hK K
            (try simp only [Act.put, List.setIfInBounds_toArray, List.set_cons_zero, List.set_cons_succ])
            refine wpAnyH_ready (rs := [5]) (by kernel_rfl) (by simp) ?_
            refine (AllReadyH.cons (by rw [List.getElem?_toArray]; rfl) (fun K hK => ?_) AllReadyH.nil)
            go_simp
            refine (l1Below_any B p 6 _ T.2.2.1).mono ?_; rintro e v5 ⟨x2, rfl, x2l, x2h, _, _, cc, bb⟩; clear n0 n1 n2 n3 n4 n5 n6; (replace T := T.but cc bb hp hbt); clear cc bb; (obtain ⟨n0, n1, n2, n3, n4, n5, n6⟩ := id T.1)
            (try go_wp2_with fail)
            refine hK.out _ _ ?_ (fun hHeld => ?_)
            · exact trivial
            clear hK K
            (try simp only [Act.put, List.setIfInBounds_toArray, List.set_cons_zero, List.set_cons_succ])
            refine wpAnyH_take (i := 6) (v := ?_) (by rw [List.getElem?_toArray]; rfl) (by kernel_rfl) (by kernel_rfl) (by kernel_rfl) (by intro _ _ _ h; exact h) (Or.inl ⟨by rfl, ?_⟩) (by assumption) ?_
            rotate_left
            · (intro w hSw; (try dsimp only at hSw); go_simp; all_goals with_reducible rfl)
            (try simp only [Act.put, List.setIfInBounds_toArray, List.set_cons_zero, List.set_cons_succ])
            refine wpAnyH_ready (rs := [7]) (by kernel_rfl) (by simp) ?_
            refine (AllReadyH.cons (by rw [List.getElem?_toArray]; rfl) (fun K hK => ?_) AllReadyH.nil)
            go_simp
            clear n0 n1 n2 n3 n4 n5 n6; (have bb := Below.nw v5 (.cells #[.int .i64 5, .int .i64 x1, .int .i64 0, .int .i64 x2] 34)); (have HN : Hid (∀ j u, (show List Value from [.int .i64 5, .int .i64 x1, .int .i64 0, .int .i64 x2])[j]? = some u → (v5.alloc (.cells #[.int .i64 5, .int .i64 x1, .int .i64 0, .int .i64 x2] 34)).cell? ((⟨v5.heap.size, 0, none⟩ : Addr).add j) = some u) := fun j u hj => four_at v5 5 x1 0 x2 34 j u hj); (replace T := T.below bb); clear bb; generalize v5.heap.size = jb at *; generalize v5.alloc (.cells #[.int .i64 5, .int .i64 x1, .int .i64 0, .int .i64 x2] 34) = v6 at *; (have hsz : w.heap.size + 1 ≤ v6.heap.size := Nat.le_of_lt (Nat.lt_of_le_of_lt hbt T.1.1)); (obtain ⟨n0, n1, n2, n3, n4, n5, n6⟩ := id T.1)
            refine hK.out _ _ ?_ (fun hHeld => ?_)
            · exact trivial
            clear hK K
            (try simp only [Act.put, List.setIfInBounds_toArray, List.set_cons_zero, List.set_cons_succ])
            refine wpAnyH_ready (rs := [8]) (by kernel_rfl) (by simp) ?_
            refine (AllReadyH.cons (by rw [List.getElem?_toArray]; rfl) (fun K hK => ?_) AllReadyH.nil)
            rw [if_pos (by rfl)]; clear n0 n1 n2 n3 n4 n5 n6; refine wp_append_own _ _ _ 24 rfl (w.heap.size + 1) 34 i0 (.agg #[.int .i64 0, .int .i64 0, .int .i64 0, .int .i64 0]) 4 32 Try.underlying24 hi hz0 hz1 hz2 rfl (by decide) _ _ _ rfl T.2.1 ⟨jb, 0, none⟩ 1 1 [.int .i64 5, .int .i64 x1, .int .i64 0, .int .i64 x2] rfl rfl HN.out (four_one _ _ _ _) (by unfold maxLen; omega) (by omega) hsz ?_; intro v' wn hown' hgrow _; (have KP := T.kept hp hbt hgrow H); clear hgrow HN hsz T; (have HR : krow M n ++ [.int .i64 5, .int .i64 x1, .int .i64 0, .int .i64 x2] = krow (addG M n (kT 5 x1 0 x2)) (n + 1) := by (have e : krow M n = krow (addG M n (kT 5 x1 0 x2)) n := krow_congr fun j hj => (if_neg (by omega)).symm); rw [e]; exact krow_add (if_pos rfl)); rw [HR] at hown'; clear HR; (obtain ⟨a', c', rfl, _, _, _⟩ := ownF_src hown'); (obtain ⟨n0, n1, n2, n3, n4, n5, n6⟩ := id KP.1)
            refine hK.out _ _ ?_ (fun hHeld => ?_)
            · exact trivial
            clear hK K
            (try simp only [Act.put, List.setIfInBounds_toArray, List.set_cons_zero, List.set_cons_succ])
            refine wpAnyH_take (i := 9) (v := ?_) (by rw [List.getElem?_toArray]; rfl) (by kernel_rfl) (by kernel_rfl) (by kernel_rfl) (by intro _ _ _ h; exact h) (Or.inl ⟨by rfl, ?_⟩) (by assumption) ?_
            rotate_left
            · (intro w hSw; (try dsimp only at hSw); go_simp; all_goals with_reducible rfl)
            (try simp only [Act.put, List.setIfInBounds_toArray, List.set_cons_zero, List.set_cons_succ])
            refine wpAnyH_ready (rs := [10]) (by kernel_rfl) (by simp) ?_
            refine (AllReadyH.cons (by rw [List.getElem?_toArray]; rfl) (fun K hK => ?_) AllReadyH.nil)
            go_simp
            refine hK.out _ _ ?_ (fun hHeld => ?_)
            · exact trivial
            clear hK K
            (try simp only [Act.put, List.setIfInBounds_toArray, List.set_cons_zero, List.set_cons_succ])
            refine wpAnyH_done (by kernel_rfl) ?_ _
            have T := Tw.of hp hB hbt KP.1 KP.2.1 KP.2.2.1 KP.2.2.2 (Nat.succ_pos n) hown'
            have hk2 : kwf (addG M n (kT 5 x1 0 x2)) (n + 1) := kwf_add hk (by decide) ⟨x1l, x1h⟩
            generalize hGG : addG M n (kT 5 x1 0 x2) = G at *
            clear KP hown' n0 n1 n2 n3 n4 n5 n6
            generalize wn.setCell ⟨bt, 2, none⟩ (.slice a' (n + 1) c') = v8 at *
            obtain ⟨n0, n1, n2, n3, n4, n5, n6⟩ := id T.1; obtain ⟨r0, r1, r2, r3, r4, r5, r6⟩ := id T.2.2.2.2
            go_wp2_with fail
            exact bodyPost_ret (v := .agg #[.int .i64 ep, .int .i64 us, .slice a' (n + 1) c']) (by simp (maxDischargeDepth := 6) [results, Try.results47, go_sem, *]) rfl ⟨_, _, _, _, _, G, rfl, by omega, hk2, Tw.result T hp hB⟩
          · go_simp
            refine (l1Below_any B p 6 _ T.2.2.1).mono ?_; rintro e v5 ⟨x2, rfl, x2l, x2h, _, _, cc, bb⟩; clear n0 n1 n2 n3 n4 n5 n6; (replace T := T.but cc bb hp hbt); clear cc bb; (obtain ⟨n0, n1, n2, n3, n4, n5, n6⟩ := id T.1)
            (try go_wp2_with fail)
            refine hK.out _ _ ?_ (fun hHeld => ?_)
            · exact trivial
            clear hK K
            (try simp only [Act.put, List.setIfInBounds_toArray, List.set_cons_zero, List.set_cons_succ])
            refine wpAnyH_take (i := 6) (v := ?_) (by rw [List.getElem?_toArray]; rfl) (by kernel_rfl) (by kernel_rfl) (by kernel_rfl) (by intro _ _ _ h; exact h) (Or.inl ⟨by rfl, ?_⟩) (by assumption) ?_
            rotate_left
            · (intro w hSw; (try dsimp only at hSw); go_simp; all_goals with_reducible rfl)
            (try simp only [Act.put, List.setIfInBounds_toArray, List.set_cons_zero, List.set_cons_succ])
            refine wpAnyH_ready (rs := [1, 7]) (by kernel_rfl) (by simp) ?_
            refine (AllReadyH.cons (by rw [List.getElem?_toArray]; rfl) (fun K hK => ?_) (AllReadyH.cons (by rw [List.getElem?_toArray]; rfl) (fun K hK => ?_) AllReadyH.nil))
            · go_simp
              refine hK.out _ _ ?_ (fun hHeld => ?_)
              · exact trivial
              clear hK K
              (try simp only [Act.put, List.setIfInBounds_toArray, List.set_cons_zero, List.set_cons_succ])
              refine wpAnyH_ready (rs := [7]) (by kernel_rfl) (by simp) ?_
              refine (AllReadyH.cons (by rw [List.getElem?_toArray]; rfl) (fun K hK => ?_) AllReadyH.nil)
              go_simp
              clear n0 n1 n2 n3 n4 n5 n6; (have bb := Below.nw v5 (.cells #[.int .i64 5, .int .i64 x1, .int .i64 0, .int .i64 x2] 34)); (have HN : Hid (∀ j u, (show List Value from [.int .i64 5, .int .i64 x1, .int .i64 0, .int .i64 x2])[j]? = some u → (v5.alloc (.cells #[.int .i64 5, .int .i64 x1, .int .i64 0, .int .i64 x2] 34)).cell? ((⟨v5.heap.size, 0, none⟩ : Addr).add j) = some u) := fun j u hj => four_at v5 5 x1 0 x2 34 j u hj); (replace T := T.below bb); clear bb; generalize v5.heap.size = jb at *; generalize v5.alloc (.cells #[.int .i64 5, .int .i64 x1, .int .i64 0, .int .i64 x2] 34) = v6 at *; (have hsz : w.heap.size + 1 ≤ v6.heap.size := Nat.le_of_lt (Nat.lt_of_le_of_lt hbt T.1.1)); (obtain ⟨n0, n1, n2, n3, n4, n5, n6⟩ := id T.1)
              refine hK.out _ _ ?_ (fun hHeld => ?_)
              · exact trivial
              clear hK K
              (try simp only [Act.put, List.setIfInBounds_toArray, List.set_cons_zero, List.set_cons_succ])
              refine wpAnyH_ready (rs := [8]) (by kernel_rfl) (by simp) ?_
              refine (AllReadyH.cons (by rw [List.getElem?_toArray]; rfl) (fun K hK => ?_) AllReadyH.nil)
              rw [if_pos (by rfl)]; clear n0 n1 n2 n3 n4 n5 n6; refine wp_append_own _ _ _ 24 rfl (w.heap.size + 1) 34 i0 (.agg #[.int .i64 0, .int .i64 0, .int .i64 0, .int .i64 0]) 4 32 Try.underlying24 hi hz0 hz1 hz2 rfl (by decide) _ _ _ rfl T.2.1 ⟨jb, 0, none⟩ 1 1 [.int .i64 5, .int .i64 x1, .int .i64 0, .int .i64 x2] rfl rfl HN.out (four_one _ _ _ _) (by unfold maxLen; omega) (by omega) hsz ?_; intro v' wn hown' hgrow _; (have KP := T.kept hp hbt hgrow H); clear hgrow HN hsz T; (have HR : krow M n ++ [.int .i64 5, .int .i64 x1, .int .i64 0, .int .i64 x2] = krow (addG M n (kT 5 x1 0 x2)) (n + 1) := by (have e : krow M n = krow (addG M n (kT 5 x1 0 x2)) n := krow_congr fun j hj => (if_neg (by omega)).symm); rw [e]; exact krow_add (if_pos rfl)); rw [HR] at hown'; clear HR; (obtain ⟨a', c', rfl, _, _, _⟩ := ownF_src hown'); (obtain ⟨n0, n1, n2, n3, n4, n5, n6⟩ := id KP.1)
              refine hK.out _ _ ?_ (fun hHeld => ?_)
              · exact trivial
              clear hK K
              (try simp only [Act.put, List.setIfInBounds_toArray, List.set_cons_zero, List.set_cons_succ])
              refine wpAnyH_take (i := 9) (v := ?_) (by rw [List.getElem?_toArray]; rfl) (by kernel_rfl) (by kernel_rfl) (by kernel_rfl) (by intro _ _ _ h; exact h) (Or.inl ⟨by rfl, ?_⟩) (by assumption) ?_
              rotate_left
              · (intro w hSw; (try dsimp only at hSw); go_simp; all_goals with_reducible rfl)
              (try simp only [Act.put, List.setIfInBounds_toArray, List.set_cons_zero, List.set_cons_succ])
              refine wpAnyH_ready (rs := [10]) (by kernel_rfl) (by simp) ?_
              refine (AllReadyH.cons (by rw [List.getElem?_toArray]; rfl) (fun K hK => ?_) AllReadyH.nil)
              go_simp
              refine hK.out _ _ ?_ (fun hHeld => ?_)
              · exact trivial
              clear hK K
              (try simp only [Act.put, List.setIfInBounds_toArray, List.set_cons_zero, List.set_cons_succ])
              refine wpAnyH_done (by kernel_rfl) ?_ _
              have T := Tw.of hp hB hbt KP.1 KP.2.1 KP.2.2.1 KP.2.2.2 (Nat.succ_pos n) hown'
              have hk2 : kwf (addG M n (kT 5 x1 0 x2)) (n + 1) := kwf_add hk (by decide) ⟨x1l, x1h⟩
              generalize hGG : addG M n (kT 5 x1 0 x2) = G at *
              clear KP hown' n0 n1 n2 n3 n4 n5 n6
              generalize wn.setCell ⟨bt, 2, none⟩ (.slice a' (n + 1) c') = v8 at *
              obtain ⟨n0, n1, n2, n3, n4, n5, n6⟩ := id T.1; obtain ⟨r0, r1, r2, r3, r4, r5, r6⟩ := id T.2.2.2.2
              go_wp2_with fail
              exact bodyPost_ret (v := .agg #[.int .i64 ep, .int .i64 us, .slice a' (n + 1) c']) (by simp (maxDischargeDepth := 6) [results, Try.results47, go_sem, *]) rfl ⟨_, _, _, _, _, G, rfl, by omega, hk2, Tw.result T hp hB⟩
            · go_simp
              clear n0 n1 n2 n3 n4 n5 n6; (have bb := Below.nw v5 (.cells #[.int .i64 5, .int .i64 x1, .int .i64 0, .int .i64 x2] 34)); (have HN : Hid (∀ j u, (show List Value from [.int .i64 5, .int .i64 x1, .int .i64 0, .int .i64 x2])[j]? = some u → (v5.alloc (.cells #[.int .i64 5, .int .i64 x1, .int .i64 0, .int .i64 x2] 34)).cell? ((⟨v5.heap.size, 0, none⟩ : Addr).add j) = some u) := fun j u hj => four_at v5 5 x1 0 x2 34 j u hj); (replace T := T.below bb); clear bb; generalize v5.heap.size = jb at *; generalize v5.alloc (.cells #[.int .i64 5, .int .i64 x1, .int .i64 0, .int .i64 x2] 34) = v6 at *; (have hsz : w.heap.size + 1 ≤ v6.heap.size := Nat.le_of_lt (Nat.lt_of_le_of_lt hbt T.1.1)); (obtain ⟨n0, n1, n2, n3, n4, n5, n6⟩ := id T.1)
              refine hK.out _ _ ?_ (fun hHeld => ?_)
              · exact trivial
              clear hK K
              (try simp only [Act.put, List.setIfInBounds_toArray, List.set_cons_zero, List.set_cons_succ])
              refine wpAnyH_ready (rs := [1]) (by kernel_rfl) (by simp) ?_
              refine (AllReadyH.cons (by rw [List.getElem?_toArray]; rfl) (fun K hK => ?_) AllReadyH.nil)
              go_simp
              refine hK.out _ _ ?_ (fun hHeld => ?_)
              · exact trivial
              clear hK K
              (try simp only [Act.put, List.setIfInBounds_toArray, List.set_cons_zero, List.set_cons_succ])
              refine wpAnyH_ready (rs := [8]) (by kernel_rfl) (by simp) ?_
              refine (AllReadyH.cons (by rw [List.getElem?_toArray]; rfl) (fun K hK => ?_) AllReadyH.nil)
              rw [if_pos (by rfl)]; clear n0 n1 n2 n3 n4 n5 n6; refine wp_append_own _ _ _ 24 rfl (w.heap.size + 1) 34 i0 (.agg #[.int .i64 0, .int .i64 0, .int .i64 0, .int .i64 0]) 4 32 Try.underlying24 hi hz0 hz1 hz2 rfl (by decide) _ _ _ rfl T.2.1 ⟨jb, 0, none⟩ 1 1 [.int .i64 5, .int .i64 x1, .int .i64 0, .int .i64 x2] rfl rfl HN.out (four_one _ _ _ _) (by unfold maxLen; omega) (by omega) hsz ?_; intro v' wn hown' hgrow _; (have KP := T.kept hp hbt hgrow H); clear hgrow HN hsz T; (have HR : krow M n ++ [.int .i64 5, .int .i64 x1, .int .i64 0, .int .i64 x2] = krow (addG M n (kT 5 x1 0 x2)) (n + 1) := by (have e : krow M n = krow (addG M n (kT 5 x1 0 x2)) n := krow_congr fun j hj => (if_neg (by omega)).symm); rw [e]; exact krow_add (if_pos rfl)); rw [HR] at hown'; clear HR; (obtain ⟨a', c', rfl, _, _, _⟩ := ownF_src hown'); (obtain ⟨n0, n1, n2, n3, n4, n5, n6⟩ := id KP.1)
              refine hK.out _ _ ?_ (fun hHeld => ?_)
              · exact trivial
              clear hK K
              (try simp only [Act.put, List.setIfInBounds_toArray, List.set_cons_zero, List.set_cons_succ])
              refine wpAnyH_take (i := 9) (v := ?_) (by rw [List.getElem?_toArray]; rfl) (by kernel_rfl) (by kernel_rfl) (by kernel_rfl) (by intro _ _ _ h; exact h) (Or.inl ⟨by rfl, ?_⟩) (by assumption) ?_
              rotate_left
              · (intro w hSw; (try dsimp only at hSw); go_simp; all_goals with_reducible rfl)
              (try simp only [Act.put, List.setIfInBounds_toArray, List.set_cons_zero, List.set_cons_succ])
              refine wpAnyH_ready (rs := [10]) (by kernel_rfl) (by simp) ?_
              refine (AllReadyH.cons (by rw [List.getElem?_toArray]; rfl) (fun K hK => ?_) AllReadyH.nil)
              go_simp
              refine hK.out _ _ ?_ (fun hHeld => ?_)
              · exact trivial
              clear hK K
              (try simp only [Act.put, List.setIfInBounds_toArray, List.set_cons_zero, List.set_cons_succ])
              refine wpAnyH_done (by kernel_rfl) ?_ _
              have T := Tw.of hp hB hbt KP.1 KP.2.1 KP.2.2.1 KP.2.2.2 (Nat.succ_pos n) hown'
              have hk2 : kwf (addG M n (kT 5 x1 0 x2)) (n + 1) := kwf_add hk (by decide) ⟨x1l, x1h⟩
              generalize hGG : addG M n (kT 5 x1 0 x2) = G at *
              clear KP hown' n0 n1 n2 n3 n4 n5 n6
              generalize wn.setCell ⟨bt, 2, none⟩ (.slice a' (n + 1) c') = v8 at *
              obtain ⟨n0, n1, n2, n3, n4, n5, n6⟩ := id T.1; obtain ⟨r0, r1, r2, r3, r4, r5, r6⟩ := id T.2.2.2.2
              go_wp2_with fail
              exact bodyPost_ret (v := .agg #[.int .i64 ep, .int .i64 us, .slice a' (n + 1) c']) (by simp (maxDischargeDepth := 6) [results, Try.results47, go_sem, *]) rfl ⟨_, _, _, _, _, G, rfl, by omega, hk2, Tw.result T hp hB⟩
      · obtain ⟨n0, n1, n2, n3, n4, n5, n6⟩ := id T.1; obtain ⟨r0, r1, r2, r3, r4, r5, r6⟩ := id T.2.2.2.2
        go_wp2_with fail
        exact bodyPost_ret (v := .agg #[.int .i64 ep, .int .i64 us, .slice A n c]) (by simp (maxDischargeDepth := 6) [results, Try.results47, go_sem, *]) rfl ⟨_, _, _, _, _, M, rfl, by omega, hk, Tw.result T hp hB⟩
end Go.Proofs.Ytcaelkpjkmpheaa
