/- What the draws of any net leave. What the draw of a net and a place leaves. Contracts of NetDrop. -/
import Derived.Test.YtgfhcilhibbooaaMf6
import Derived.Test.YtgfhcilhibbooaaMf5
import Derived.Deep.RegionHeld3
import Derived.Deep.DeepCutAuto
import Derived.WalkKit
import Derived.WalkSpells
import Derived.WalkLawsBesides
import Derived.Deep.RegionHeld
import Derived.Test.YtgfhcilhibbooaaMf4
namespace Go.Proofs.Ytgfhcilhibbooaa
open Go.RowKit
set_option linter.unusedVariables false
theorem wp_append_newF {P : Program} {w : World} {o : Oper} {a : Act} {K : Act → World → Prop} {Q : Exit → Act → World → Prop} (s x : Operand) (t : TypeId)
    (ho : o.op = .call { callee := .builtin .append, args := #[s, x], argTypes := #[t, t] })
    (base : Nat) (e : TypeId) (i : TypeInfo) (z : Value) (size bytes : Nat) (ht : P.underlying t = some (.slice e)) (hi : P.info? e = some i) (hz : i.zero = some z)
    (hsize : i.size = size) (hby : i.bytes = bytes) (hzs : z.cells.size = size) (hsz : 0 < size)
    (v : Value) (n : Nat) (xs : List Value) (hs : a.eval s = v) (hown : w.ownsRow base e size v n xs)
    (ad : Addr) (m c : Nat) (news : List Value) (hx : a.eval x = .slice (some ad) m c) (hl : news.length = m * size) (hnews : ∀ j u, news[j]? = some u → w.cell? (ad.add j) = some u) (h1 : ∀ u ∈ news, u.oneCell' = true)
    (h63 : n + m ≤ maxLen) (hbytes : (n + m) * bytes ≤ 140737488355328) (hbase : base ≤ w.heap.size)
    (h : ∀ v' w', w'.ownsRow base e size v' (n + m) (xs ++ news) → w.grownBy w' v.ownBlock → (∀ g, v'.ownBlock = some g → v.ownBlock = some g ∨ w.heap.size ≤ g) → K (a.put o.dst v') w') : o.wp P a w K Q := by
  obtain ⟨v', w', hr, h2, h3, h4⟩ := run_append_new (P := P) w base t o.type e i z size bytes ht hi hz hsize hby hzs hsz v n xs hown ad m c news hl hnews h1 h63 hbytes hbase
  unfold Oper.wp execOp
  simp only [ho, resolve, invoke, builtin, Sem.run_bind, Sem.run_pure, Result.andThen_ok, List.map_toArray, List.map_cons, List.map_nil, hs, hx, hr]
  exact h v' w' h2 h3 h4
def NetAny (w : World) (B p : Nat) (e : Ending) (w' : World) : Prop := ∃ (nx : Int) (A : Option Addr) (n c : Nat) (M : Nat → FT), e = .returned (.agg #[.int .i64 nx, .slice A n c]) ∧ n ≤ 41 ∧ fwf M n ∧ w'.ownsRow w.heap.size 30 5 (.slice A n c) n (frow M n) ∧ CurOk w' B p ∧ But p w w'
set_option maxRecDepth 100000 in
set_option maxHeartbeats 8000000 in
theorem l5DrawAny_any (B p : Nat) (w : World) (hcur : CurOk w B p) :
    Calls Try.prog 42 #[.pointer (some ⟨p, 0, none⟩)] w fun e w' => NetAny w B p e w' := by
  obtain ⟨i0, hi, hz0, hz1, hz2⟩ := infoF_parts
  have hpl := hcur.lt
  have hp : p < w.heap.size := hpl.1
  have hB : B ≤ p := hpl.2
  have hpw : w.heap.size ≠ p := by omega
  have A1 := Below.nw w (.cells #[.int .i64 0, .slice none 0 0] 26)
  have R := B2.new w (.int .i64 0) (.slice none 0 0) 26
  go_enter Try.func42, Try.ntmps42
  go_wp2_with fail
  refine (l5DrawNet_any B p _ (by exact hcur.below A1)).mono ?_
  rintro e w1 ⟨nx, A, n, c, M, rfl, ⟨e0, e1⟩, hn, hk, O, c1, b1⟩
  simp only [World.size_alloc] at O
  replace R := R.but b1 hpw
  have q1 : But p w w1 := (But.of_below A1).trans b1
  have A2 := Below.nw w1 (.cells #[.int .i64 nx, .slice A n c] 26)
  have H : ∀ g, (Value.slice A n c).ownBlock = some g → g ≠ w1.heap.size := fun g hg => by have := (World.ownsRow.lt O g hg).2; omega
  have T : Nw w B p w1.heap.size (w1.alloc (.cells #[.int .i64 nx, .slice A n c] 26)) nx A n c M := ⟨B2.new w1 _ _ _, own_belowF O A2, c1.below A2, q1.alloc _, R.below A2, H⟩
  have hbt : w.heap.size < w1.heap.size := R.1
  clear A1 A2 b1 q1 R c1 hcur O H
  go_upto_region 2 with fail
  generalize w1.heap.size = bt at *
  generalize w1.alloc (.cells #[.int .i64 nx, .slice A n c] 26) = v at *
  have hbp : bt ≠ p := by omega
  go_wp2_with fail
  refine (l1Below_any B p 25 _ T.2.2.1).mono ?_
  rintro e v2 ⟨z, rfl, zl, zh, _, _, cc, bb⟩
  replace T := T.but cc bb hp hbt
  clear cc bb
  by_cases h0 : z = 0
  · subst h0
    go_wp2_with fail
    have hpk := pickIn B p _ [-1, 0, 1000001] T.2.2.1 (by simp) (by simp); simp only [List.map_cons, List.map_nil, List.length_cons, List.length_nil, Nat.zero_add, Nat.reduceAdd] at hpk; refine hpk.mono ?_; clear hpk; rintro e v3 ⟨y, rfl, ym, cc, bb⟩; clear ym
    replace T := T.but cc bb hp hbt
    clear cc bb
    have T2 := T.next hp hB hbt y
    obtain ⟨n0, n1, n2, n3, n4⟩ := id T.1; obtain ⟨r0, r1, r2, r3, r4⟩ := id T.2.2.2.2.1
    go_upto_region 9 with fail
    clear n0 n1 n2 n3 n4 r0 r1 r2 r3 r4 T
    generalize v3.setCell ⟨bt, 0, none⟩ (.int .i64 y) = v4 at *
    have T := T2
    obtain ⟨n0, n1, n2, n3, n4⟩ := id T.1; obtain ⟨r0, r1, r2, r3, r4⟩ := id T.2.2.2.2.1
    go_wp2_with fail
    exact bodyPost_ret (v := .agg #[.int .i64 y, .slice A n c]) (by simp (maxDischargeDepth := 6) [results, Try.results42, go_sem, *]) rfl ⟨_, _, _, _, M, rfl, by omega, hk, Nw.result T2 hp hB⟩
  · by_cases h1 : z = 1
    · subst h1
      obtain ⟨n0, n1, n2, n3, n4⟩ := id T.1
      go_upto_region 6 with fail
      refine wp_region_held_drew (S := (fun _ => True)) (by kernel_rfl) ?_ (fun hHeld => ?_)
      · exact trivial
      clear n0 n1 n2 n3 n4
      replace T := T.drew
      generalize v2.drew = v3 at *
      (obtain ⟨n0, n1, n2, n3, n4⟩ := id T.1)
      refine wpAnyH_take (i := 0) (v := ?_) (by rw [List.getElem?_toArray]; rfl) (by kernel_rfl) (by kernel_rfl) (by kernel_rfl) (by intro _ _ _ h; exact h) (Or.inl ⟨by rfl, ?_⟩) (by assumption) ?_
      rotate_left
      · (intro w hSw; (try dsimp only at hSw); go_simp; all_goals with_reducible rfl)
      (try simp only [Act.put, List.setIfInBounds_toArray, List.set_cons_zero, List.set_cons_succ])
      refine wpAnyH_take (i := 2) (v := ?_) (by rw [List.getElem?_toArray]; rfl) (by kernel_rfl) (by kernel_rfl) (by kernel_rfl) (by intro _ _ _ h; exact h) (Or.inl ⟨by rfl, ?_⟩) (by assumption) ?_
      rotate_left
      · (intro w hSw; (try dsimp only at hSw); go_simp; all_goals with_reducible rfl)
      (try simp only [Act.put, List.setIfInBounds_toArray, List.set_cons_zero, List.set_cons_succ])
      refine wpAnyH_ready (rs := [1, 3]) (by kernel_rfl) (by simp) ?_
      refine (AllReadyH.cons (by rw [List.getElem?_toArray]; rfl) (fun K hK => ?_) (AllReadyH.cons (by rw [List.getElem?_toArray]; rfl) (fun K hK => ?_) AllReadyH.nil))
      · go_simp
        refine hK.out _ _ ?_ (fun hHeld => ?_)
        · exact trivial
        clear hK K
        (try simp only [Act.put, List.setIfInBounds_toArray, List.set_cons_zero, List.set_cons_succ])
        refine wpAnyH_ready (rs := [3]) (by kernel_rfl) (by simp) ?_
        refine (AllReadyH.cons (by rw [List.getElem?_toArray]; rfl) (fun K hK => ?_) AllReadyH.nil)
        go_simp
        refine (l1Below_any B p 9 _ T.2.2.1).mono ?_; rintro e v4 ⟨x1, rfl, x1l, x1h, _, _, cc, bb⟩; clear n0 n1 n2 n3 n4; (replace T := T.but cc bb hp hbt); clear cc bb; (obtain ⟨n0, n1, n2, n3, n4⟩ := id T.1)
        (try go_wp2_with fail)
        refine hK.out _ _ ?_ (fun hHeld => ?_)
        · exact trivial
        clear hK K
        (try simp only [Act.put, List.setIfInBounds_toArray, List.set_cons_zero, List.set_cons_succ])
        refine wpAnyH_take (i := 4) (v := ?_) (by rw [List.getElem?_toArray]; rfl) (by kernel_rfl) (by kernel_rfl) (by kernel_rfl) (by intro _ _ _ h; exact h) (Or.inl ⟨by rfl, ?_⟩) (by assumption) ?_
        rotate_left
        · (intro w hSw; (try dsimp only at hSw); go_simp; all_goals with_reducible rfl)
        (try simp only [Act.put, List.setIfInBounds_toArray, List.set_cons_zero, List.set_cons_succ])
        refine wpAnyH_ready (rs := [5]) (by kernel_rfl) (by simp) ?_
        refine (AllReadyH.cons (by rw [List.getElem?_toArray]; rfl) (fun K hK => ?_) AllReadyH.nil)
        go_simp
        clear n0 n1 n2 n3 n4; (have bb := Below.nw v4 (.cells #[.int .i64 0, .int .i64 x1, .int .i64 0, .string ⟨#[]⟩, .int .i64 0] 30)); (have HN : Hid (∀ j u, (show List Value from [.int .i64 0, .int .i64 x1, .int .i64 0, .string ⟨#[]⟩, .int .i64 0])[j]? = some u → (v4.alloc (.cells #[.int .i64 0, .int .i64 x1, .int .i64 0, .string ⟨#[]⟩, .int .i64 0] 30)).cell? ((⟨v4.heap.size, 0, none⟩ : Addr).add j) = some u) := fun j u hj => five_at v4 0 x1 0 ⟨#[]⟩ 0 30 j u hj); (replace T := T.below bb); clear bb; generalize v4.heap.size = jb at *; generalize v4.alloc (.cells #[.int .i64 0, .int .i64 x1, .int .i64 0, .string ⟨#[]⟩, .int .i64 0] 30) = v6 at *; (have hsz : w.heap.size + 1 ≤ v6.heap.size := Nat.le_of_lt (Nat.lt_of_le_of_lt hbt T.1.1)); (obtain ⟨n0, n1, n2, n3, n4⟩ := id T.1)
        refine hK.out _ _ ?_ (fun hHeld => ?_)
        · exact trivial
        clear hK K
        (try simp only [Act.put, List.setIfInBounds_toArray, List.set_cons_zero, List.set_cons_succ])
        refine wpAnyH_ready (rs := [6]) (by kernel_rfl) (by simp) ?_
        refine (AllReadyH.cons (by rw [List.getElem?_toArray]; rfl) (fun K hK => ?_) AllReadyH.nil)
        rw [if_pos (by rfl)]; clear n0 n1 n2 n3 n4; refine wp_append_newF _ _ 24 rfl (w.heap.size + 1) 30 i0 (.agg #[.int .i64 0, .int .i64 0, .int .i64 0, .string ⟨#[]⟩, .int .i64 0]) 5 48 Try.underlying24 hi hz0 hz1 hz2 rfl (by decide) _ _ _ rfl T.2.1 ⟨jb, 0, none⟩ 1 1 [.int .i64 0, .int .i64 x1, .int .i64 0, .string ⟨#[]⟩, .int .i64 0] rfl rfl HN.out (five_one _ _ _ _ _) (by unfold maxLen; omega) (by omega) hsz ?_; intro v' wn hown' hgrow hfr; (have HR : wn.ownsRow (w.heap.size + 1) 30 5 v' (n + 1) (frow (insG M n (fT 0 x1 0 ⟨#[]⟩ 0)) (n + 1)) := (by have q := hown'; rw [frow_ins1 (fT 0 x1 0 ⟨#[]⟩ 0) rfl] at q; exact q)); (obtain ⟨a', c', rfl, _, _, _⟩ := ownF_src HR); (have T3 := T.grow hp hB hbt hgrow HR hfr); (have KQ := T.1.keptG hgrow (fun e => T.2.2.2.2.2 bt e.symm rfl)); clear hgrow HN hsz T hown' hfr HR; (obtain ⟨n0, n1, n2, n3, n4⟩ := id KQ)
        refine hK.out _ _ ?_ (fun hHeld => ?_)
        · exact trivial
        clear hK K
        (try simp only [Act.put, List.setIfInBounds_toArray, List.set_cons_zero, List.set_cons_succ])
        refine wpAnyH_take (i := 7) (v := ?_) (by rw [List.getElem?_toArray]; rfl) (by kernel_rfl) (by kernel_rfl) (by kernel_rfl) (by intro _ _ _ h; exact h) (Or.inl ⟨by rfl, ?_⟩) (by assumption) ?_
        rotate_left
        · (intro w hSw; (try dsimp only at hSw); go_simp; all_goals with_reducible rfl)
        (try simp only [Act.put, List.setIfInBounds_toArray, List.set_cons_zero, List.set_cons_succ])
        refine wpAnyH_ready (rs := [8]) (by kernel_rfl) (by simp) ?_
        refine (AllReadyH.cons (by rw [List.getElem?_toArray]; rfl) (fun K hK => ?_) AllReadyH.nil)
        go_simp
        refine hK.out _ _ ?_ (fun hHeld => ?_)
        · exact trivial
        clear hK K
        (try simp only [Act.put, List.setIfInBounds_toArray, List.set_cons_zero, List.set_cons_succ])
        refine wpAnyH_done (by kernel_rfl) ?_ _
        have hk2 : fwf (insG M n (fT 0 x1 0 ⟨#[]⟩ 0)) (n + 1) := fwf_add hk (wf_small5 (x := 0) ⟨by omega, by omega⟩) (show (⟨#[]⟩ : ByteArray).size ≤ 100 by decide)
        generalize hGG : insG M n (fT 0 x1 0 ⟨#[]⟩ 0) = G at *
        clear KQ n0 n1 n2 n3 n4
        generalize wn.setCell ⟨bt, 1, none⟩ (.slice a' (n + 1) c') = v8 at *
        have T := T3
        obtain ⟨n0, n1, n2, n3, n4⟩ := id T.1; obtain ⟨r0, r1, r2, r3, r4⟩ := id T.2.2.2.2.1
        go_wp2_with fail
        exact bodyPost_ret (v := .agg #[.int .i64 nx, .slice a' (n + 1) c']) (by simp (maxDischargeDepth := 6) [results, Try.results42, go_sem, *]) rfl ⟨_, _, _, _, G, rfl, by omega, hk2, Nw.result T hp hB⟩
      · go_simp
        refine (l1Below_any B p 9 _ T.2.2.1).mono ?_; rintro e v4 ⟨x1, rfl, x1l, x1h, _, _, cc, bb⟩; clear n0 n1 n2 n3 n4; (replace T := T.but cc bb hp hbt); clear cc bb; (obtain ⟨n0, n1, n2, n3, n4⟩ := id T.1)
        (try go_wp2_with fail)
        refine hK.out _ _ ?_ (fun hHeld => ?_)
        · exact trivial
        clear hK K
        (try simp only [Act.put, List.setIfInBounds_toArray, List.set_cons_zero, List.set_cons_succ])
        refine wpAnyH_take (i := 4) (v := ?_) (by rw [List.getElem?_toArray]; rfl) (by kernel_rfl) (by kernel_rfl) (by kernel_rfl) (by intro _ _ _ h; exact h) (Or.inl ⟨by rfl, ?_⟩) (by assumption) ?_
        rotate_left
        · (intro w hSw; (try dsimp only at hSw); go_simp; all_goals with_reducible rfl)
        (try simp only [Act.put, List.setIfInBounds_toArray, List.set_cons_zero, List.set_cons_succ])
        refine wpAnyH_ready (rs := [1, 5]) (by kernel_rfl) (by simp) ?_
        refine (AllReadyH.cons (by rw [List.getElem?_toArray]; rfl) (fun K hK => ?_) (AllReadyH.cons (by rw [List.getElem?_toArray]; rfl) (fun K hK => ?_) AllReadyH.nil))
        · go_simp
          refine hK.out _ _ ?_ (fun hHeld => ?_)
          · exact trivial
          clear hK K
          (try simp only [Act.put, List.setIfInBounds_toArray, List.set_cons_zero, List.set_cons_succ])
          refine wpAnyH_ready (rs := [5]) (by kernel_rfl) (by simp) ?_
          refine (AllReadyH.cons (by rw [List.getElem?_toArray]; rfl) (fun K hK => ?_) AllReadyH.nil)
          go_simp
          clear n0 n1 n2 n3 n4; (have bb := Below.nw v4 (.cells #[.int .i64 0, .int .i64 x1, .int .i64 0, .string ⟨#[]⟩, .int .i64 0] 30)); (have HN : Hid (∀ j u, (show List Value from [.int .i64 0, .int .i64 x1, .int .i64 0, .string ⟨#[]⟩, .int .i64 0])[j]? = some u → (v4.alloc (.cells #[.int .i64 0, .int .i64 x1, .int .i64 0, .string ⟨#[]⟩, .int .i64 0] 30)).cell? ((⟨v4.heap.size, 0, none⟩ : Addr).add j) = some u) := fun j u hj => five_at v4 0 x1 0 ⟨#[]⟩ 0 30 j u hj); (replace T := T.below bb); clear bb; generalize v4.heap.size = jb at *; generalize v4.alloc (.cells #[.int .i64 0, .int .i64 x1, .int .i64 0, .string ⟨#[]⟩, .int .i64 0] 30) = v6 at *; (have hsz : w.heap.size + 1 ≤ v6.heap.size := Nat.le_of_lt (Nat.lt_of_le_of_lt hbt T.1.1)); (obtain ⟨n0, n1, n2, n3, n4⟩ := id T.1)
          refine hK.out _ _ ?_ (fun hHeld => ?_)
          · exact trivial
          clear hK K
          (try simp only [Act.put, List.setIfInBounds_toArray, List.set_cons_zero, List.set_cons_succ])
          refine wpAnyH_ready (rs := [6]) (by kernel_rfl) (by simp) ?_
          refine (AllReadyH.cons (by rw [List.getElem?_toArray]; rfl) (fun K hK => ?_) AllReadyH.nil)
          rw [if_pos (by rfl)]; clear n0 n1 n2 n3 n4; refine wp_append_newF _ _ 24 rfl (w.heap.size + 1) 30 i0 (.agg #[.int .i64 0, .int .i64 0, .int .i64 0, .string ⟨#[]⟩, .int .i64 0]) 5 48 Try.underlying24 hi hz0 hz1 hz2 rfl (by decide) _ _ _ rfl T.2.1 ⟨jb, 0, none⟩ 1 1 [.int .i64 0, .int .i64 x1, .int .i64 0, .string ⟨#[]⟩, .int .i64 0] rfl rfl HN.out (five_one _ _ _ _ _) (by unfold maxLen; omega) (by omega) hsz ?_; intro v' wn hown' hgrow hfr; (have HR : wn.ownsRow (w.heap.size + 1) 30 5 v' (n + 1) (frow (insG M n (fT 0 x1 0 ⟨#[]⟩ 0)) (n + 1)) := (by have q := hown'; rw [frow_ins1 (fT 0 x1 0 ⟨#[]⟩ 0) rfl] at q; exact q)); (obtain ⟨a', c', rfl, _, _, _⟩ := ownF_src HR); (have T3 := T.grow hp hB hbt hgrow HR hfr); (have KQ := T.1.keptG hgrow (fun e => T.2.2.2.2.2 bt e.symm rfl)); clear hgrow HN hsz T hown' hfr HR; (obtain ⟨n0, n1, n2, n3, n4⟩ := id KQ)
          refine hK.out _ _ ?_ (fun hHeld => ?_)
          · exact trivial
          clear hK K
          (try simp only [Act.put, List.setIfInBounds_toArray, List.set_cons_zero, List.set_cons_succ])
          refine wpAnyH_take (i := 7) (v := ?_) (by rw [List.getElem?_toArray]; rfl) (by kernel_rfl) (by kernel_rfl) (by kernel_rfl) (by intro _ _ _ h; exact h) (Or.inl ⟨by rfl, ?_⟩) (by assumption) ?_
          rotate_left
          · (intro w hSw; (try dsimp only at hSw); go_simp; all_goals with_reducible rfl)
          (try simp only [Act.put, List.setIfInBounds_toArray, List.set_cons_zero, List.set_cons_succ])
          refine wpAnyH_ready (rs := [8]) (by kernel_rfl) (by simp) ?_
          refine (AllReadyH.cons (by rw [List.getElem?_toArray]; rfl) (fun K hK => ?_) AllReadyH.nil)
          go_simp
          refine hK.out _ _ ?_ (fun hHeld => ?_)
          · exact trivial
          clear hK K
          (try simp only [Act.put, List.setIfInBounds_toArray, List.set_cons_zero, List.set_cons_succ])
          refine wpAnyH_done (by kernel_rfl) ?_ _
          have hk2 : fwf (insG M n (fT 0 x1 0 ⟨#[]⟩ 0)) (n + 1) := fwf_add hk (wf_small5 (x := 0) ⟨by omega, by omega⟩) (show (⟨#[]⟩ : ByteArray).size ≤ 100 by decide)
          generalize hGG : insG M n (fT 0 x1 0 ⟨#[]⟩ 0) = G at *
          clear KQ n0 n1 n2 n3 n4
          generalize wn.setCell ⟨bt, 1, none⟩ (.slice a' (n + 1) c') = v8 at *
          have T := T3
          obtain ⟨n0, n1, n2, n3, n4⟩ := id T.1; obtain ⟨r0, r1, r2, r3, r4⟩ := id T.2.2.2.2.1
          go_wp2_with fail
          exact bodyPost_ret (v := .agg #[.int .i64 nx, .slice a' (n + 1) c']) (by simp (maxDischargeDepth := 6) [results, Try.results42, go_sem, *]) rfl ⟨_, _, _, _, G, rfl, by omega, hk2, Nw.result T hp hB⟩
        · go_simp
          clear n0 n1 n2 n3 n4; (have bb := Below.nw v4 (.cells #[.int .i64 0, .int .i64 x1, .int .i64 0, .string ⟨#[]⟩, .int .i64 0] 30)); (have HN : Hid (∀ j u, (show List Value from [.int .i64 0, .int .i64 x1, .int .i64 0, .string ⟨#[]⟩, .int .i64 0])[j]? = some u → (v4.alloc (.cells #[.int .i64 0, .int .i64 x1, .int .i64 0, .string ⟨#[]⟩, .int .i64 0] 30)).cell? ((⟨v4.heap.size, 0, none⟩ : Addr).add j) = some u) := fun j u hj => five_at v4 0 x1 0 ⟨#[]⟩ 0 30 j u hj); (replace T := T.below bb); clear bb; generalize v4.heap.size = jb at *; generalize v4.alloc (.cells #[.int .i64 0, .int .i64 x1, .int .i64 0, .string ⟨#[]⟩, .int .i64 0] 30) = v6 at *; (have hsz : w.heap.size + 1 ≤ v6.heap.size := Nat.le_of_lt (Nat.lt_of_le_of_lt hbt T.1.1)); (obtain ⟨n0, n1, n2, n3, n4⟩ := id T.1)
          refine hK.out _ _ ?_ (fun hHeld => ?_)
          · exact trivial
          clear hK K
          (try simp only [Act.put, List.setIfInBounds_toArray, List.set_cons_zero, List.set_cons_succ])
          refine wpAnyH_ready (rs := [1]) (by kernel_rfl) (by simp) ?_
          refine (AllReadyH.cons (by rw [List.getElem?_toArray]; rfl) (fun K hK => ?_) AllReadyH.nil)
          go_simp
          refine hK.out _ _ ?_ (fun hHeld => ?_)
          · exact trivial
          clear hK K
          (try simp only [Act.put, List.setIfInBounds_toArray, List.set_cons_zero, List.set_cons_succ])
          refine wpAnyH_ready (rs := [6]) (by kernel_rfl) (by simp) ?_
          refine (AllReadyH.cons (by rw [List.getElem?_toArray]; rfl) (fun K hK => ?_) AllReadyH.nil)
          rw [if_pos (by rfl)]; clear n0 n1 n2 n3 n4; refine wp_append_newF _ _ 24 rfl (w.heap.size + 1) 30 i0 (.agg #[.int .i64 0, .int .i64 0, .int .i64 0, .string ⟨#[]⟩, .int .i64 0]) 5 48 Try.underlying24 hi hz0 hz1 hz2 rfl (by decide) _ _ _ rfl T.2.1 ⟨jb, 0, none⟩ 1 1 [.int .i64 0, .int .i64 x1, .int .i64 0, .string ⟨#[]⟩, .int .i64 0] rfl rfl HN.out (five_one _ _ _ _ _) (by unfold maxLen; omega) (by omega) hsz ?_; intro v' wn hown' hgrow hfr; (have HR : wn.ownsRow (w.heap.size + 1) 30 5 v' (n + 1) (frow (insG M n (fT 0 x1 0 ⟨#[]⟩ 0)) (n + 1)) := (by have q := hown'; rw [frow_ins1 (fT 0 x1 0 ⟨#[]⟩ 0) rfl] at q; exact q)); (obtain ⟨a', c', rfl, _, _, _⟩ := ownF_src HR); (have T3 := T.grow hp hB hbt hgrow HR hfr); (have KQ := T.1.keptG hgrow (fun e => T.2.2.2.2.2 bt e.symm rfl)); clear hgrow HN hsz T hown' hfr HR; (obtain ⟨n0, n1, n2, n3, n4⟩ := id KQ)
          refine hK.out _ _ ?_ (fun hHeld => ?_)
          · exact trivial
          clear hK K
          (try simp only [Act.put, List.setIfInBounds_toArray, List.set_cons_zero, List.set_cons_succ])
          refine wpAnyH_take (i := 7) (v := ?_) (by rw [List.getElem?_toArray]; rfl) (by kernel_rfl) (by kernel_rfl) (by kernel_rfl) (by intro _ _ _ h; exact h) (Or.inl ⟨by rfl, ?_⟩) (by assumption) ?_
          rotate_left
          · (intro w hSw; (try dsimp only at hSw); go_simp; all_goals with_reducible rfl)
          (try simp only [Act.put, List.setIfInBounds_toArray, List.set_cons_zero, List.set_cons_succ])
          refine wpAnyH_ready (rs := [8]) (by kernel_rfl) (by simp) ?_
          refine (AllReadyH.cons (by rw [List.getElem?_toArray]; rfl) (fun K hK => ?_) AllReadyH.nil)
          go_simp
          refine hK.out _ _ ?_ (fun hHeld => ?_)
          · exact trivial
          clear hK K
          (try simp only [Act.put, List.setIfInBounds_toArray, List.set_cons_zero, List.set_cons_succ])
          refine wpAnyH_done (by kernel_rfl) ?_ _
          have hk2 : fwf (insG M n (fT 0 x1 0 ⟨#[]⟩ 0)) (n + 1) := fwf_add hk (wf_small5 (x := 0) ⟨by omega, by omega⟩) (show (⟨#[]⟩ : ByteArray).size ≤ 100 by decide)
          generalize hGG : insG M n (fT 0 x1 0 ⟨#[]⟩ 0) = G at *
          clear KQ n0 n1 n2 n3 n4
          generalize wn.setCell ⟨bt, 1, none⟩ (.slice a' (n + 1) c') = v8 at *
          have T := T3
          obtain ⟨n0, n1, n2, n3, n4⟩ := id T.1; obtain ⟨r0, r1, r2, r3, r4⟩ := id T.2.2.2.2.1
          go_wp2_with fail
          exact bodyPost_ret (v := .agg #[.int .i64 nx, .slice a' (n + 1) c']) (by simp (maxDischargeDepth := 6) [results, Try.results42, go_sem, *]) rfl ⟨_, _, _, _, G, rfl, by omega, hk2, Nw.result T hp hB⟩
    · by_cases h2 : z = 2
      · subst h2
        obtain ⟨n0, n1, n2, n3, n4⟩ := id T.1
        go_upto_region 8 with fail
        refine wp_region_held_drew (S := (fun _ => True)) (by kernel_rfl) ?_ (fun hHeld => ?_)
        · exact trivial
        clear n0 n1 n2 n3 n4
        replace T := T.drew
        generalize v2.drew = v3 at *
        (obtain ⟨n0, n1, n2, n3, n4⟩ := id T.1)
        refine wpAnyH_take (i := 0) (v := ?_) (by rw [List.getElem?_toArray]; rfl) (by kernel_rfl) (by kernel_rfl) (by kernel_rfl) (by intro _ _ _ h; exact h) (Or.inl ⟨by rfl, ?_⟩) (by assumption) ?_
        rotate_left
        · (intro w hSw; (try dsimp only at hSw); go_simp; all_goals with_reducible rfl)
        (try simp only [Act.put, List.setIfInBounds_toArray, List.set_cons_zero, List.set_cons_succ])
        refine wpAnyH_take (i := 2) (v := ?_) (by rw [List.getElem?_toArray]; rfl) (by kernel_rfl) (by kernel_rfl) (by kernel_rfl) (by intro _ _ _ h; exact h) (Or.inl ⟨by rfl, ?_⟩) (by assumption) ?_
        rotate_left
        · (intro w hSw; (try dsimp only at hSw); go_simp; all_goals with_reducible rfl)
        (try simp only [Act.put, List.setIfInBounds_toArray, List.set_cons_zero, List.set_cons_succ])
        refine wpAnyH_take (i := 5) (v := ?_) (by rw [List.getElem?_toArray]; rfl) (by kernel_rfl) (by kernel_rfl) (by kernel_rfl) (by intro _ _ _ h; exact h) (Or.inl ⟨by rfl, ?_⟩) (by assumption) ?_
        rotate_left
        · (intro w hSw; (try dsimp only at hSw); go_simp; all_goals with_reducible rfl)
        (try simp only [Act.put, List.setIfInBounds_toArray, List.set_cons_zero, List.set_cons_succ])
        refine wpAnyH_ready (rs := [1, 3, 6]) (by kernel_rfl) (by simp) ?_
        refine (AllReadyH.cons (by rw [List.getElem?_toArray]; rfl) (fun K hK => ?_) (AllReadyH.cons (by rw [List.getElem?_toArray]; rfl) (fun K hK => ?_) (AllReadyH.cons (by rw [List.getElem?_toArray]; rfl) (fun K hK => ?_) AllReadyH.nil)))
        · go_simp
          refine hK.out _ _ ?_ (fun hHeld => ?_)
          · exact trivial
          clear hK K
          (try simp only [Act.put, List.setIfInBounds_toArray, List.set_cons_zero, List.set_cons_succ])
          refine wpAnyH_ready (rs := [3, 6]) (by kernel_rfl) (by simp) ?_
          refine (AllReadyH.cons (by rw [List.getElem?_toArray]; rfl) (fun K hK => ?_) (AllReadyH.cons (by rw [List.getElem?_toArray]; rfl) (fun K hK => ?_) AllReadyH.nil))
          · go_simp
            refine hK.out _ _ ?_ (fun hHeld => ?_)
            · exact trivial
            clear hK K
            (try simp only [Act.put, List.setIfInBounds_toArray, List.set_cons_zero, List.set_cons_succ])
            refine wpAnyH_take (i := 4) (v := ?_) (by rw [List.getElem?_toArray]; rfl) (by kernel_rfl) (by kernel_rfl) (by kernel_rfl) (by intro _ _ _ h; exact h) (Or.inl ⟨by rfl, ?_⟩) (by assumption) ?_
            rotate_left
            · (intro w hSw; (try dsimp only at hSw); go_simp; all_goals with_reducible rfl)
            (try simp only [Act.put, List.setIfInBounds_toArray, List.set_cons_zero, List.set_cons_succ])
            refine wpAnyH_ready (rs := [6]) (by kernel_rfl) (by simp) ?_
            refine (AllReadyH.cons (by rw [List.getElem?_toArray]; rfl) (fun K hK => ?_) AllReadyH.nil)
            go_simp
            refine (l1Below_any B p 2 _ T.2.2.1).mono ?_; rintro e v4 ⟨x1, rfl, x1l, x1h, _, _, cc, bb⟩; clear n0 n1 n2 n3 n4; (replace T := T.but cc bb hp hbt); clear cc bb; (obtain ⟨n0, n1, n2, n3, n4⟩ := id T.1); (have W1 : IntKind.i64.wrap (nx - 1) = nx - 1 := Go.IntWalk.i64_in _ ⟨by omega, by omega⟩); (have W2 : IntKind.i64.wrap (1000000000000 + x1) = 1000000000000 + x1 := Go.IntWalk.i64_in _ ⟨by omega, by omega⟩)
            (try go_wp2_with fail)
            refine hK.out _ _ ?_ (fun hHeld => ?_)
            · exact trivial
            clear hK K
            (try simp only [Act.put, List.setIfInBounds_toArray, List.set_cons_zero, List.set_cons_succ])
            refine wpAnyH_take (i := 7) (v := ?_) (by rw [List.getElem?_toArray]; rfl) (by kernel_rfl) (by kernel_rfl) (by kernel_rfl) (by intro _ _ _ h; exact h) (Or.inl ⟨by rfl, ?_⟩) (by assumption) ?_
            rotate_left
            · (intro w hSw; (try dsimp only at hSw); go_simp; all_goals with_reducible rfl)
            (try simp only [Act.put, List.setIfInBounds_toArray, List.set_cons_zero, List.set_cons_succ])
            refine wpAnyH_take (i := 8) (v := ?_) (by rw [List.getElem?_toArray]; rfl) (by kernel_rfl) (by kernel_rfl) (by kernel_rfl) (by intro _ _ _ h; exact h) (Or.inl ⟨by rfl, ?_⟩) (by assumption) ?_
            rotate_left
            · (intro w hSw; (try dsimp only at hSw); go_simp; all_goals with_reducible rfl)
            (try simp only [Act.put, List.setIfInBounds_toArray, List.set_cons_zero, List.set_cons_succ])
            refine wpAnyH_ready (rs := [9]) (by kernel_rfl) (by simp) ?_
            refine (AllReadyH.cons (by rw [List.getElem?_toArray]; rfl) (fun K hK => ?_) AllReadyH.nil)
            go_simp
            clear n0 n1 n2 n3 n4; (have bb := Below.nw v4 (.cells #[.int .i64 (nx - 1), .int .i64 0, .int .i64 0, .string ⟨#[]⟩, .int .i64 (1000000000000 + x1)] 30)); (have HN : Hid (∀ j u, (show List Value from [.int .i64 (nx - 1), .int .i64 0, .int .i64 0, .string ⟨#[]⟩, .int .i64 (1000000000000 + x1)])[j]? = some u → (v4.alloc (.cells #[.int .i64 (nx - 1), .int .i64 0, .int .i64 0, .string ⟨#[]⟩, .int .i64 (1000000000000 + x1)] 30)).cell? ((⟨v4.heap.size, 0, none⟩ : Addr).add j) = some u) := fun j u hj => five_at v4 (nx - 1) 0 0 ⟨#[]⟩ (1000000000000 + x1) 30 j u hj); (replace T := T.below bb); clear bb; generalize v4.heap.size = jb at *; generalize v4.alloc (.cells #[.int .i64 (nx - 1), .int .i64 0, .int .i64 0, .string ⟨#[]⟩, .int .i64 (1000000000000 + x1)] 30) = v6 at *; (have hsz : w.heap.size + 1 ≤ v6.heap.size := Nat.le_of_lt (Nat.lt_of_le_of_lt hbt T.1.1)); (obtain ⟨n0, n1, n2, n3, n4⟩ := id T.1)
            refine hK.out _ _ ?_ (fun hHeld => ?_)
            · exact trivial
            clear hK K
            (try simp only [Act.put, List.setIfInBounds_toArray, List.set_cons_zero, List.set_cons_succ])
            refine wpAnyH_ready (rs := [10]) (by kernel_rfl) (by simp) ?_
            refine (AllReadyH.cons (by rw [List.getElem?_toArray]; rfl) (fun K hK => ?_) AllReadyH.nil)
            rw [if_pos (by rfl)]; clear n0 n1 n2 n3 n4; refine wp_append_newF _ _ 24 rfl (w.heap.size + 1) 30 i0 (.agg #[.int .i64 0, .int .i64 0, .int .i64 0, .string ⟨#[]⟩, .int .i64 0]) 5 48 Try.underlying24 hi hz0 hz1 hz2 rfl (by decide) _ _ _ rfl T.2.1 ⟨jb, 0, none⟩ 1 1 [.int .i64 (nx - 1), .int .i64 0, .int .i64 0, .string ⟨#[]⟩, .int .i64 (1000000000000 + x1)] rfl rfl HN.out (five_one _ _ _ _ _) (by unfold maxLen; omega) (by omega) hsz ?_; intro v' wn hown' hgrow hfr; (have HR : wn.ownsRow (w.heap.size + 1) 30 5 v' (n + 1) (frow (insG M n (fT (nx - 1) 0 0 ⟨#[]⟩ (1000000000000 + x1))) (n + 1)) := (by have q := hown'; rw [frow_ins1 (fT (nx - 1) 0 0 ⟨#[]⟩ (1000000000000 + x1)) rfl] at q; exact q)); (obtain ⟨a', c', rfl, _, _, _⟩ := ownF_src HR); (have T3 := T.grow hp hB hbt hgrow HR hfr); (have KQ := T.1.keptG hgrow (fun e => T.2.2.2.2.2 bt e.symm rfl)); clear hgrow HN hsz T hown' hfr HR; (obtain ⟨n0, n1, n2, n3, n4⟩ := id KQ)
            refine hK.out _ _ ?_ (fun hHeld => ?_)
            · exact trivial
            clear hK K
            (try simp only [Act.put, List.setIfInBounds_toArray, List.set_cons_zero, List.set_cons_succ])
            refine wpAnyH_take (i := 11) (v := ?_) (by rw [List.getElem?_toArray]; rfl) (by kernel_rfl) (by kernel_rfl) (by kernel_rfl) (by intro _ _ _ h; exact h) (Or.inl ⟨by rfl, ?_⟩) (by assumption) ?_
            rotate_left
            · (intro w hSw; (try dsimp only at hSw); go_simp; all_goals with_reducible rfl)
            (try simp only [Act.put, List.setIfInBounds_toArray, List.set_cons_zero, List.set_cons_succ])
            refine wpAnyH_ready (rs := [12]) (by kernel_rfl) (by simp) ?_
            refine (AllReadyH.cons (by rw [List.getElem?_toArray]; rfl) (fun K hK => ?_) AllReadyH.nil)
            go_simp
            refine hK.out _ _ ?_ (fun hHeld => ?_)
            · exact trivial
            clear hK K
            (try simp only [Act.put, List.setIfInBounds_toArray, List.set_cons_zero, List.set_cons_succ])
            refine wpAnyH_done (by kernel_rfl) ?_ _
            have hk2 : fwf (insG M n (fT (nx - 1) 0 0 ⟨#[]⟩ (1000000000000 + x1))) (n + 1) := fwf_add hk (wf_small5 (x := (nx - 1)) ⟨by omega, by omega⟩) (show (⟨#[]⟩ : ByteArray).size ≤ 100 by decide)
            generalize hGG : insG M n (fT (nx - 1) 0 0 ⟨#[]⟩ (1000000000000 + x1)) = G at *
            clear KQ n0 n1 n2 n3 n4
            generalize wn.setCell ⟨bt, 1, none⟩ (.slice a' (n + 1) c') = v8 at *
            have T := T3
            obtain ⟨n0, n1, n2, n3, n4⟩ := id T.1; obtain ⟨r0, r1, r2, r3, r4⟩ := id T.2.2.2.2.1
            go_wp2_with fail
            exact bodyPost_ret (v := .agg #[.int .i64 nx, .slice a' (n + 1) c']) (by simp (maxDischargeDepth := 6) [results, Try.results42, go_sem, *]) rfl ⟨_, _, _, _, G, rfl, by omega, hk2, Nw.result T hp hB⟩
          · go_simp
            refine (l1Below_any B p 2 _ T.2.2.1).mono ?_; rintro e v4 ⟨x1, rfl, x1l, x1h, _, _, cc, bb⟩; clear n0 n1 n2 n3 n4; (replace T := T.but cc bb hp hbt); clear cc bb; (obtain ⟨n0, n1, n2, n3, n4⟩ := id T.1); (have W1 : IntKind.i64.wrap (nx - 1) = nx - 1 := Go.IntWalk.i64_in _ ⟨by omega, by omega⟩); (have W2 : IntKind.i64.wrap (1000000000000 + x1) = 1000000000000 + x1 := Go.IntWalk.i64_in _ ⟨by omega, by omega⟩)
            (try go_wp2_with fail)
            refine hK.out _ _ ?_ (fun hHeld => ?_)
            · exact trivial
            clear hK K
            (try simp only [Act.put, List.setIfInBounds_toArray, List.set_cons_zero, List.set_cons_succ])
            refine wpAnyH_take (i := 7) (v := ?_) (by rw [List.getElem?_toArray]; rfl) (by kernel_rfl) (by kernel_rfl) (by kernel_rfl) (by intro _ _ _ h; exact h) (Or.inl ⟨by rfl, ?_⟩) (by assumption) ?_
            rotate_left
            · (intro w hSw; (try dsimp only at hSw); go_simp; all_goals with_reducible rfl)
            (try simp only [Act.put, List.setIfInBounds_toArray, List.set_cons_zero, List.set_cons_succ])
            refine wpAnyH_ready (rs := [3]) (by kernel_rfl) (by simp) ?_
            refine (AllReadyH.cons (by rw [List.getElem?_toArray]; rfl) (fun K hK => ?_) AllReadyH.nil)
            go_simp
            refine hK.out _ _ ?_ (fun hHeld => ?_)
            · exact trivial
            clear hK K
            (try simp only [Act.put, List.setIfInBounds_toArray, List.set_cons_zero, List.set_cons_succ])
            refine wpAnyH_take (i := 4) (v := ?_) (by rw [List.getElem?_toArray]; rfl) (by kernel_rfl) (by kernel_rfl) (by kernel_rfl) (by intro _ _ _ h; exact h) (Or.inl ⟨by rfl, ?_⟩) (by assumption) ?_
            rotate_left
            · (intro w hSw; (try dsimp only at hSw); go_simp; all_goals with_reducible rfl)
            (try simp only [Act.put, List.setIfInBounds_toArray, List.set_cons_zero, List.set_cons_succ])
            refine wpAnyH_take (i := 8) (v := ?_) (by rw [List.getElem?_toArray]; rfl) (by kernel_rfl) (by kernel_rfl) (by kernel_rfl) (by intro _ _ _ h; exact h) (Or.inl ⟨by rfl, ?_⟩) (by assumption) ?_
            rotate_left
            · (intro w hSw; (try dsimp only at hSw); go_simp; all_goals with_reducible rfl)
            (try simp only [Act.put, List.setIfInBounds_toArray, List.set_cons_zero, List.set_cons_succ])
            refine wpAnyH_ready (rs := [9]) (by kernel_rfl) (by simp) ?_
            refine (AllReadyH.cons (by rw [List.getElem?_toArray]; rfl) (fun K hK => ?_) AllReadyH.nil)
            go_simp
            clear n0 n1 n2 n3 n4; (have bb := Below.nw v4 (.cells #[.int .i64 (nx - 1), .int .i64 0, .int .i64 0, .string ⟨#[]⟩, .int .i64 (1000000000000 + x1)] 30)); (have HN : Hid (∀ j u, (show List Value from [.int .i64 (nx - 1), .int .i64 0, .int .i64 0, .string ⟨#[]⟩, .int .i64 (1000000000000 + x1)])[j]? = some u → (v4.alloc (.cells #[.int .i64 (nx - 1), .int .i64 0, .int .i64 0, .string ⟨#[]⟩, .int .i64 (1000000000000 + x1)] 30)).cell? ((⟨v4.heap.size, 0, none⟩ : Addr).add j) = some u) := fun j u hj => five_at v4 (nx - 1) 0 0 ⟨#[]⟩ (1000000000000 + x1) 30 j u hj); (replace T := T.below bb); clear bb; generalize v4.heap.size = jb at *; generalize v4.alloc (.cells #[.int .i64 (nx - 1), .int .i64 0, .int .i64 0, .string ⟨#[]⟩, .int .i64 (1000000000000 + x1)] 30) = v6 at *; (have hsz : w.heap.size + 1 ≤ v6.heap.size := Nat.le_of_lt (Nat.lt_of_le_of_lt hbt T.1.1)); (obtain ⟨n0, n1, n2, n3, n4⟩ := id T.1)
            refine hK.out _ _ ?_ (fun hHeld => ?_)
            · exact trivial
            clear hK K
            (try simp only [Act.put, List.setIfInBounds_toArray, List.set_cons_zero, List.set_cons_succ])
            refine wpAnyH_ready (rs := [10]) (by kernel_rfl) (by simp) ?_
            refine (AllReadyH.cons (by rw [List.getElem?_toArray]; rfl) (fun K hK => ?_) AllReadyH.nil)
            rw [if_pos (by rfl)]; clear n0 n1 n2 n3 n4; refine wp_append_newF _ _ 24 rfl (w.heap.size + 1) 30 i0 (.agg #[.int .i64 0, .int .i64 0, .int .i64 0, .string ⟨#[]⟩, .int .i64 0]) 5 48 Try.underlying24 hi hz0 hz1 hz2 rfl (by decide) _ _ _ rfl T.2.1 ⟨jb, 0, none⟩ 1 1 [.int .i64 (nx - 1), .int .i64 0, .int .i64 0, .string ⟨#[]⟩, .int .i64 (1000000000000 + x1)] rfl rfl HN.out (five_one _ _ _ _ _) (by unfold maxLen; omega) (by omega) hsz ?_; intro v' wn hown' hgrow hfr; (have HR : wn.ownsRow (w.heap.size + 1) 30 5 v' (n + 1) (frow (insG M n (fT (nx - 1) 0 0 ⟨#[]⟩ (1000000000000 + x1))) (n + 1)) := (by have q := hown'; rw [frow_ins1 (fT (nx - 1) 0 0 ⟨#[]⟩ (1000000000000 + x1)) rfl] at q; exact q)); (obtain ⟨a', c', rfl, _, _, _⟩ := ownF_src HR); (have T3 := T.grow hp hB hbt hgrow HR hfr); (have KQ := T.1.keptG hgrow (fun e => T.2.2.2.2.2 bt e.symm rfl)); clear hgrow HN hsz T hown' hfr HR; (obtain ⟨n0, n1, n2, n3, n4⟩ := id KQ)
            refine hK.out _ _ ?_ (fun hHeld => ?_)
            · exact trivial
            clear hK K
            (try simp only [Act.put, List.setIfInBounds_toArray, List.set_cons_zero, List.set_cons_succ])
            refine wpAnyH_take (i := 11) (v := ?_) (by rw [List.getElem?_toArray]; rfl) (by kernel_rfl) (by kernel_rfl) (by kernel_rfl) (by intro _ _ _ h; exact h) (Or.inl ⟨by rfl, ?_⟩) (by assumption) ?_
            rotate_left
            · (intro w hSw; (try dsimp only at hSw); go_simp; all_goals with_reducible rfl)
            (try simp only [Act.put, List.setIfInBounds_toArray, List.set_cons_zero, List.set_cons_succ])
            refine wpAnyH_ready (rs := [12]) (by kernel_rfl) (by simp) ?_
            refine (AllReadyH.cons (by rw [List.getElem?_toArray]; rfl) (fun K hK => ?_) AllReadyH.nil)
            go_simp
            refine hK.out _ _ ?_ (fun hHeld => ?_)
            · exact trivial
            clear hK K
            (try simp only [Act.put, List.setIfInBounds_toArray, List.set_cons_zero, List.set_cons_succ])
            refine wpAnyH_done (by kernel_rfl) ?_ _
            have hk2 : fwf (insG M n (fT (nx - 1) 0 0 ⟨#[]⟩ (1000000000000 + x1))) (n + 1) := fwf_add hk (wf_small5 (x := (nx - 1)) ⟨by omega, by omega⟩) (show (⟨#[]⟩ : ByteArray).size ≤ 100 by decide)
            generalize hGG : insG M n (fT (nx - 1) 0 0 ⟨#[]⟩ (1000000000000 + x1)) = G at *
            clear KQ n0 n1 n2 n3 n4
            generalize wn.setCell ⟨bt, 1, none⟩ (.slice a' (n + 1) c') = v8 at *
            have T := T3
            obtain ⟨n0, n1, n2, n3, n4⟩ := id T.1; obtain ⟨r0, r1, r2, r3, r4⟩ := id T.2.2.2.2.1
            go_wp2_with fail
            exact bodyPost_ret (v := .agg #[.int .i64 nx, .slice a' (n + 1) c']) (by simp (maxDischargeDepth := 6) [results, Try.results42, go_sem, *]) rfl ⟨_, _, _, _, G, rfl, by omega, hk2, Nw.result T hp hB⟩
        · go_simp
          refine hK.out _ _ ?_ (fun hHeld => ?_)
          · exact trivial
          clear hK K
          (try simp only [Act.put, List.setIfInBounds_toArray, List.set_cons_zero, List.set_cons_succ])
          refine wpAnyH_take (i := 4) (v := ?_) (by rw [List.getElem?_toArray]; rfl) (by kernel_rfl) (by kernel_rfl) (by kernel_rfl) (by intro _ _ _ h; exact h) (Or.inl ⟨by rfl, ?_⟩) (by assumption) ?_
          rotate_left
          · (intro w hSw; (try dsimp only at hSw); go_simp; all_goals with_reducible rfl)
          (try simp only [Act.put, List.setIfInBounds_toArray, List.set_cons_zero, List.set_cons_succ])
          refine wpAnyH_ready (rs := [1, 6]) (by kernel_rfl) (by simp) ?_
          refine (AllReadyH.cons (by rw [List.getElem?_toArray]; rfl) (fun K hK => ?_) (AllReadyH.cons (by rw [List.getElem?_toArray]; rfl) (fun K hK => ?_) AllReadyH.nil))
          · go_simp
            refine hK.out _ _ ?_ (fun hHeld => ?_)
            · exact trivial
            clear hK K
            (try simp only [Act.put, List.setIfInBounds_toArray, List.set_cons_zero, List.set_cons_succ])
            refine wpAnyH_ready (rs := [6]) (by kernel_rfl) (by simp) ?_
            refine (AllReadyH.cons (by rw [List.getElem?_toArray]; rfl) (fun K hK => ?_) AllReadyH.nil)
            go_simp
            refine (l1Below_any B p 2 _ T.2.2.1).mono ?_; rintro e v4 ⟨x1, rfl, x1l, x1h, _, _, cc, bb⟩; clear n0 n1 n2 n3 n4; (replace T := T.but cc bb hp hbt); clear cc bb; (obtain ⟨n0, n1, n2, n3, n4⟩ := id T.1); (have W1 : IntKind.i64.wrap (nx - 1) = nx - 1 := Go.IntWalk.i64_in _ ⟨by omega, by omega⟩); (have W2 : IntKind.i64.wrap (1000000000000 + x1) = 1000000000000 + x1 := Go.IntWalk.i64_in _ ⟨by omega, by omega⟩)
            (try go_wp2_with fail)
            refine hK.out _ _ ?_ (fun hHeld => ?_)
            · exact trivial
            clear hK K
            (try simp only [Act.put, List.setIfInBounds_toArray, List.set_cons_zero, List.set_cons_succ])
            refine wpAnyH_take (i := 7) (v := ?_) (by rw [List.getElem?_toArray]; rfl) (by kernel_rfl) (by kernel_rfl) (by kernel_rfl) (by intro _ _ _ h; exact h) (Or.inl ⟨by rfl, ?_⟩) (by assumption) ?_
            rotate_left
            · (intro w hSw; (try dsimp only at hSw); go_simp; all_goals with_reducible rfl)
            (try simp only [Act.put, List.setIfInBounds_toArray, List.set_cons_zero, List.set_cons_succ])
            refine wpAnyH_take (i := 8) (v := ?_) (by rw [List.getElem?_toArray]; rfl) (by kernel_rfl) (by kernel_rfl) (by kernel_rfl) (by intro _ _ _ h; exact h) (Or.inl ⟨by rfl, ?_⟩) (by assumption) ?_
            rotate_left
            · (intro w hSw; (try dsimp only at hSw); go_simp; all_goals with_reducible rfl)
            (try simp only [Act.put, List.setIfInBounds_toArray, List.set_cons_zero, List.set_cons_succ])
            refine wpAnyH_ready (rs := [9]) (by kernel_rfl) (by simp) ?_
            refine (AllReadyH.cons (by rw [List.getElem?_toArray]; rfl) (fun K hK => ?_) AllReadyH.nil)
            go_simp
            clear n0 n1 n2 n3 n4; (have bb := Below.nw v4 (.cells #[.int .i64 (nx - 1), .int .i64 0, .int .i64 0, .string ⟨#[]⟩, .int .i64 (1000000000000 + x1)] 30)); (have HN : Hid (∀ j u, (show List Value from [.int .i64 (nx - 1), .int .i64 0, .int .i64 0, .string ⟨#[]⟩, .int .i64 (1000000000000 + x1)])[j]? = some u → (v4.alloc (.cells #[.int .i64 (nx - 1), .int .i64 0, .int .i64 0, .string ⟨#[]⟩, .int .i64 (1000000000000 + x1)] 30)).cell? ((⟨v4.heap.size, 0, none⟩ : Addr).add j) = some u) := fun j u hj => five_at v4 (nx - 1) 0 0 ⟨#[]⟩ (1000000000000 + x1) 30 j u hj); (replace T := T.below bb); clear bb; generalize v4.heap.size = jb at *; generalize v4.alloc (.cells #[.int .i64 (nx - 1), .int .i64 0, .int .i64 0, .string ⟨#[]⟩, .int .i64 (1000000000000 + x1)] 30) = v6 at *; (have hsz : w.heap.size + 1 ≤ v6.heap.size := Nat.le_of_lt (Nat.lt_of_le_of_lt hbt T.1.1)); (obtain ⟨n0, n1, n2, n3, n4⟩ := id T.1)
            refine hK.out _ _ ?_ (fun hHeld => ?_)
            · exact trivial
            clear hK K
            (try simp only [Act.put, List.setIfInBounds_toArray, List.set_cons_zero, List.set_cons_succ])
            refine wpAnyH_ready (rs := [10]) (by kernel_rfl) (by simp) ?_
            refine (AllReadyH.cons (by rw [List.getElem?_toArray]; rfl) (fun K hK => ?_) AllReadyH.nil)
            rw [if_pos (by rfl)]; clear n0 n1 n2 n3 n4; refine wp_append_newF _ _ 24 rfl (w.heap.size + 1) 30 i0 (.agg #[.int .i64 0, .int .i64 0, .int .i64 0, .string ⟨#[]⟩, .int .i64 0]) 5 48 Try.underlying24 hi hz0 hz1 hz2 rfl (by decide) _ _ _ rfl T.2.1 ⟨jb, 0, none⟩ 1 1 [.int .i64 (nx - 1), .int .i64 0, .int .i64 0, .string ⟨#[]⟩, .int .i64 (1000000000000 + x1)] rfl rfl HN.out (five_one _ _ _ _ _) (by unfold maxLen; omega) (by omega) hsz ?_; intro v' wn hown' hgrow hfr; (have HR : wn.ownsRow (w.heap.size + 1) 30 5 v' (n + 1) (frow (insG M n (fT (nx - 1) 0 0 ⟨#[]⟩ (1000000000000 + x1))) (n + 1)) := (by have q := hown'; rw [frow_ins1 (fT (nx - 1) 0 0 ⟨#[]⟩ (1000000000000 + x1)) rfl] at q; exact q)); (obtain ⟨a', c', rfl, _, _, _⟩ := ownF_src HR); (have T3 := T.grow hp hB hbt hgrow HR hfr); (have KQ := T.1.keptG hgrow (fun e => T.2.2.2.2.2 bt e.symm rfl)); clear hgrow HN hsz T hown' hfr HR; (obtain ⟨n0, n1, n2, n3, n4⟩ := id KQ)
            refine hK.out _ _ ?_ (fun hHeld => ?_)
            · exact trivial
            clear hK K
            (try simp only [Act.put, List.setIfInBounds_toArray, List.set_cons_zero, List.set_cons_succ])
            refine wpAnyH_take (i := 11) (v := ?_) (by rw [List.getElem?_toArray]; rfl) (by kernel_rfl) (by kernel_rfl) (by kernel_rfl) (by intro _ _ _ h; exact h) (Or.inl ⟨by rfl, ?_⟩) (by assumption) ?_
            rotate_left
            · (intro w hSw; (try dsimp only at hSw); go_simp; all_goals with_reducible rfl)
            (try simp only [Act.put, List.setIfInBounds_toArray, List.set_cons_zero, List.set_cons_succ])
            refine wpAnyH_ready (rs := [12]) (by kernel_rfl) (by simp) ?_
            refine (AllReadyH.cons (by rw [List.getElem?_toArray]; rfl) (fun K hK => ?_) AllReadyH.nil)
            go_simp
            refine hK.out _ _ ?_ (fun hHeld => ?_)
            · exact trivial
            clear hK K
            (try simp only [Act.put, List.setIfInBounds_toArray, List.set_cons_zero, List.set_cons_succ])
            refine wpAnyH_done (by kernel_rfl) ?_ _
            have hk2 : fwf (insG M n (fT (nx - 1) 0 0 ⟨#[]⟩ (1000000000000 + x1))) (n + 1) := fwf_add hk (wf_small5 (x := (nx - 1)) ⟨by omega, by omega⟩) (show (⟨#[]⟩ : ByteArray).size ≤ 100 by decide)
            generalize hGG : insG M n (fT (nx - 1) 0 0 ⟨#[]⟩ (1000000000000 + x1)) = G at *
            clear KQ n0 n1 n2 n3 n4
            generalize wn.setCell ⟨bt, 1, none⟩ (.slice a' (n + 1) c') = v8 at *
            have T := T3
            obtain ⟨n0, n1, n2, n3, n4⟩ := id T.1; obtain ⟨r0, r1, r2, r3, r4⟩ := id T.2.2.2.2.1
            go_wp2_with fail
            exact bodyPost_ret (v := .agg #[.int .i64 nx, .slice a' (n + 1) c']) (by simp (maxDischargeDepth := 6) [results, Try.results42, go_sem, *]) rfl ⟨_, _, _, _, G, rfl, by omega, hk2, Nw.result T hp hB⟩
          · go_simp
            refine (l1Below_any B p 2 _ T.2.2.1).mono ?_; rintro e v4 ⟨x1, rfl, x1l, x1h, _, _, cc, bb⟩; clear n0 n1 n2 n3 n4; (replace T := T.but cc bb hp hbt); clear cc bb; (obtain ⟨n0, n1, n2, n3, n4⟩ := id T.1); (have W1 : IntKind.i64.wrap (nx - 1) = nx - 1 := Go.IntWalk.i64_in _ ⟨by omega, by omega⟩); (have W2 : IntKind.i64.wrap (1000000000000 + x1) = 1000000000000 + x1 := Go.IntWalk.i64_in _ ⟨by omega, by omega⟩)
            (try go_wp2_with fail)
            refine hK.out _ _ ?_ (fun hHeld => ?_)
            · exact trivial
            clear hK K
            (try simp only [Act.put, List.setIfInBounds_toArray, List.set_cons_zero, List.set_cons_succ])
            refine wpAnyH_take (i := 7) (v := ?_) (by rw [List.getElem?_toArray]; rfl) (by kernel_rfl) (by kernel_rfl) (by kernel_rfl) (by intro _ _ _ h; exact h) (Or.inl ⟨by rfl, ?_⟩) (by assumption) ?_
            rotate_left
            · (intro w hSw; (try dsimp only at hSw); go_simp; all_goals with_reducible rfl)
            (try simp only [Act.put, List.setIfInBounds_toArray, List.set_cons_zero, List.set_cons_succ])
            refine wpAnyH_take (i := 8) (v := ?_) (by rw [List.getElem?_toArray]; rfl) (by kernel_rfl) (by kernel_rfl) (by kernel_rfl) (by intro _ _ _ h; exact h) (Or.inl ⟨by rfl, ?_⟩) (by assumption) ?_
            rotate_left
            · (intro w hSw; (try dsimp only at hSw); go_simp; all_goals with_reducible rfl)
            (try simp only [Act.put, List.setIfInBounds_toArray, List.set_cons_zero, List.set_cons_succ])
            refine wpAnyH_ready (rs := [1, 9]) (by kernel_rfl) (by simp) ?_
            refine (AllReadyH.cons (by rw [List.getElem?_toArray]; rfl) (fun K hK => ?_) (AllReadyH.cons (by rw [List.getElem?_toArray]; rfl) (fun K hK => ?_) AllReadyH.nil))
            · go_simp
              refine hK.out _ _ ?_ (fun hHeld => ?_)
              · exact trivial
              clear hK K
              (try simp only [Act.put, List.setIfInBounds_toArray, List.set_cons_zero, List.set_cons_succ])
              refine wpAnyH_ready (rs := [9]) (by kernel_rfl) (by simp) ?_
              refine (AllReadyH.cons (by rw [List.getElem?_toArray]; rfl) (fun K hK => ?_) AllReadyH.nil)
              go_simp
              clear n0 n1 n2 n3 n4; (have bb := Below.nw v4 (.cells #[.int .i64 (nx - 1), .int .i64 0, .int .i64 0, .string ⟨#[]⟩, .int .i64 (1000000000000 + x1)] 30)); (have HN : Hid (∀ j u, (show List Value from [.int .i64 (nx - 1), .int .i64 0, .int .i64 0, .string ⟨#[]⟩, .int .i64 (1000000000000 + x1)])[j]? = some u → (v4.alloc (.cells #[.int .i64 (nx - 1), .int .i64 0, .int .i64 0, .string ⟨#[]⟩, .int .i64 (1000000000000 + x1)] 30)).cell? ((⟨v4.heap.size, 0, none⟩ : Addr).add j) = some u) := fun j u hj => five_at v4 (nx - 1) 0 0 ⟨#[]⟩ (1000000000000 + x1) 30 j u hj); (replace T := T.below bb); clear bb; generalize v4.heap.size = jb at *; generalize v4.alloc (.cells #[.int .i64 (nx - 1), .int .i64 0, .int .i64 0, .string ⟨#[]⟩, .int .i64 (1000000000000 + x1)] 30) = v6 at *; (have hsz : w.heap.size + 1 ≤ v6.heap.size := Nat.le_of_lt (Nat.lt_of_le_of_lt hbt T.1.1)); (obtain ⟨n0, n1, n2, n3, n4⟩ := id T.1)
              refine hK.out _ _ ?_ (fun hHeld => ?_)
              · exact trivial
              clear hK K
              (try simp only [Act.put, List.setIfInBounds_toArray, List.set_cons_zero, List.set_cons_succ])
              refine wpAnyH_ready (rs := [10]) (by kernel_rfl) (by simp) ?_
              refine (AllReadyH.cons (by rw [List.getElem?_toArray]; rfl) (fun K hK => ?_) AllReadyH.nil)
              rw [if_pos (by rfl)]; clear n0 n1 n2 n3 n4; refine wp_append_newF _ _ 24 rfl (w.heap.size + 1) 30 i0 (.agg #[.int .i64 0, .int .i64 0, .int .i64 0, .string ⟨#[]⟩, .int .i64 0]) 5 48 Try.underlying24 hi hz0 hz1 hz2 rfl (by decide) _ _ _ rfl T.2.1 ⟨jb, 0, none⟩ 1 1 [.int .i64 (nx - 1), .int .i64 0, .int .i64 0, .string ⟨#[]⟩, .int .i64 (1000000000000 + x1)] rfl rfl HN.out (five_one _ _ _ _ _) (by unfold maxLen; omega) (by omega) hsz ?_; intro v' wn hown' hgrow hfr; (have HR : wn.ownsRow (w.heap.size + 1) 30 5 v' (n + 1) (frow (insG M n (fT (nx - 1) 0 0 ⟨#[]⟩ (1000000000000 + x1))) (n + 1)) := (by have q := hown'; rw [frow_ins1 (fT (nx - 1) 0 0 ⟨#[]⟩ (1000000000000 + x1)) rfl] at q; exact q)); (obtain ⟨a', c', rfl, _, _, _⟩ := ownF_src HR); (have T3 := T.grow hp hB hbt hgrow HR hfr); (have KQ := T.1.keptG hgrow (fun e => T.2.2.2.2.2 bt e.symm rfl)); clear hgrow HN hsz T hown' hfr HR; (obtain ⟨n0, n1, n2, n3, n4⟩ := id KQ)
              refine hK.out _ _ ?_ (fun hHeld => ?_)
              · exact trivial
              clear hK K
              (try simp only [Act.put, List.setIfInBounds_toArray, List.set_cons_zero, List.set_cons_succ])
              refine wpAnyH_take (i := 11) (v := ?_) (by rw [List.getElem?_toArray]; rfl) (by kernel_rfl) (by kernel_rfl) (by kernel_rfl) (by intro _ _ _ h; exact h) (Or.inl ⟨by rfl, ?_⟩) (by assumption) ?_
              rotate_left
              · (intro w hSw; (try dsimp only at hSw); go_simp; all_goals with_reducible rfl)
              (try simp only [Act.put, List.setIfInBounds_toArray, List.set_cons_zero, List.set_cons_succ])
              refine wpAnyH_ready (rs := [12]) (by kernel_rfl) (by simp) ?_
              refine (AllReadyH.cons (by rw [List.getElem?_toArray]; rfl) (fun K hK => ?_) AllReadyH.nil)
              go_simp
              refine hK.out _ _ ?_ (fun hHeld => ?_)
              · exact trivial
              clear hK K
              (try simp only [Act.put, List.setIfInBounds_toArray, List.set_cons_zero, List.set_cons_succ])
              refine wpAnyH_done (by kernel_rfl) ?_ _
              have hk2 : fwf (insG M n (fT (nx - 1) 0 0 ⟨#[]⟩ (1000000000000 + x1))) (n + 1) := fwf_add hk (wf_small5 (x := (nx - 1)) ⟨by omega, by omega⟩) (show (⟨#[]⟩ : ByteArray).size ≤ 100 by decide)
              generalize hGG : insG M n (fT (nx - 1) 0 0 ⟨#[]⟩ (1000000000000 + x1)) = G at *
              clear KQ n0 n1 n2 n3 n4
              generalize wn.setCell ⟨bt, 1, none⟩ (.slice a' (n + 1) c') = v8 at *
              have T := T3
              obtain ⟨n0, n1, n2, n3, n4⟩ := id T.1; obtain ⟨r0, r1, r2, r3, r4⟩ := id T.2.2.2.2.1
              go_wp2_with fail
              exact bodyPost_ret (v := .agg #[.int .i64 nx, .slice a' (n + 1) c']) (by simp (maxDischargeDepth := 6) [results, Try.results42, go_sem, *]) rfl ⟨_, _, _, _, G, rfl, by omega, hk2, Nw.result T hp hB⟩
            · go_simp
              clear n0 n1 n2 n3 n4; (have bb := Below.nw v4 (.cells #[.int .i64 (nx - 1), .int .i64 0, .int .i64 0, .string ⟨#[]⟩, .int .i64 (1000000000000 + x1)] 30)); (have HN : Hid (∀ j u, (show List Value from [.int .i64 (nx - 1), .int .i64 0, .int .i64 0, .string ⟨#[]⟩, .int .i64 (1000000000000 + x1)])[j]? = some u → (v4.alloc (.cells #[.int .i64 (nx - 1), .int .i64 0, .int .i64 0, .string ⟨#[]⟩, .int .i64 (1000000000000 + x1)] 30)).cell? ((⟨v4.heap.size, 0, none⟩ : Addr).add j) = some u) := fun j u hj => five_at v4 (nx - 1) 0 0 ⟨#[]⟩ (1000000000000 + x1) 30 j u hj); (replace T := T.below bb); clear bb; generalize v4.heap.size = jb at *; generalize v4.alloc (.cells #[.int .i64 (nx - 1), .int .i64 0, .int .i64 0, .string ⟨#[]⟩, .int .i64 (1000000000000 + x1)] 30) = v6 at *; (have hsz : w.heap.size + 1 ≤ v6.heap.size := Nat.le_of_lt (Nat.lt_of_le_of_lt hbt T.1.1)); (obtain ⟨n0, n1, n2, n3, n4⟩ := id T.1)
              refine hK.out _ _ ?_ (fun hHeld => ?_)
              · exact trivial
              clear hK K
              (try simp only [Act.put, List.setIfInBounds_toArray, List.set_cons_zero, List.set_cons_succ])
              refine wpAnyH_ready (rs := [1]) (by kernel_rfl) (by simp) ?_
              refine (AllReadyH.cons (by rw [List.getElem?_toArray]; rfl) (fun K hK => ?_) AllReadyH.nil)
              go_simp
              refine hK.out _ _ ?_ (fun hHeld => ?_)
              · exact trivial
              clear hK K
              (try simp only [Act.put, List.setIfInBounds_toArray, List.set_cons_zero, List.set_cons_succ])
              refine wpAnyH_ready (rs := [10]) (by kernel_rfl) (by simp) ?_
              refine (AllReadyH.cons (by rw [List.getElem?_toArray]; rfl) (fun K hK => ?_) AllReadyH.nil)
              rw [if_pos (by rfl)]; clear n0 n1 n2 n3 n4; refine wp_append_newF _ _ 24 rfl (w.heap.size + 1) 30 i0 (.agg #[.int .i64 0, .int .i64 0, .int .i64 0, .string ⟨#[]⟩, .int .i64 0]) 5 48 Try.underlying24 hi hz0 hz1 hz2 rfl (by decide) _ _ _ rfl T.2.1 ⟨jb, 0, none⟩ 1 1 [.int .i64 (nx - 1), .int .i64 0, .int .i64 0, .string ⟨#[]⟩, .int .i64 (1000000000000 + x1)] rfl rfl HN.out (five_one _ _ _ _ _) (by unfold maxLen; omega) (by omega) hsz ?_; intro v' wn hown' hgrow hfr; (have HR : wn.ownsRow (w.heap.size + 1) 30 5 v' (n + 1) (frow (insG M n (fT (nx - 1) 0 0 ⟨#[]⟩ (1000000000000 + x1))) (n + 1)) := (by have q := hown'; rw [frow_ins1 (fT (nx - 1) 0 0 ⟨#[]⟩ (1000000000000 + x1)) rfl] at q; exact q)); (obtain ⟨a', c', rfl, _, _, _⟩ := ownF_src HR); (have T3 := T.grow hp hB hbt hgrow HR hfr); (have KQ := T.1.keptG hgrow (fun e => T.2.2.2.2.2 bt e.symm rfl)); clear hgrow HN hsz T hown' hfr HR; (obtain ⟨n0, n1, n2, n3, n4⟩ := id KQ)
              refine hK.out _ _ ?_ (fun hHeld => ?_)
              · exact trivial
              clear hK K
              (try simp only [Act.put, List.setIfInBounds_toArray, List.set_cons_zero, List.set_cons_succ])
              refine wpAnyH_take (i := 11) (v := ?_) (by rw [List.getElem?_toArray]; rfl) (by kernel_rfl) (by kernel_rfl) (by kernel_rfl) (by intro _ _ _ h; exact h) (Or.inl ⟨by rfl, ?_⟩) (by assumption) ?_
              rotate_left
              · (intro w hSw; (try dsimp only at hSw); go_simp; all_goals with_reducible rfl)
              (try simp only [Act.put, List.setIfInBounds_toArray, List.set_cons_zero, List.set_cons_succ])
              refine wpAnyH_ready (rs := [12]) (by kernel_rfl) (by simp) ?_
              refine (AllReadyH.cons (by rw [List.getElem?_toArray]; rfl) (fun K hK => ?_) AllReadyH.nil)
              go_simp
              refine hK.out _ _ ?_ (fun hHeld => ?_)
              · exact trivial
              clear hK K
              (try simp only [Act.put, List.setIfInBounds_toArray, List.set_cons_zero, List.set_cons_succ])
              refine wpAnyH_done (by kernel_rfl) ?_ _
              have hk2 : fwf (insG M n (fT (nx - 1) 0 0 ⟨#[]⟩ (1000000000000 + x1))) (n + 1) := fwf_add hk (wf_small5 (x := (nx - 1)) ⟨by omega, by omega⟩) (show (⟨#[]⟩ : ByteArray).size ≤ 100 by decide)
              generalize hGG : insG M n (fT (nx - 1) 0 0 ⟨#[]⟩ (1000000000000 + x1)) = G at *
              clear KQ n0 n1 n2 n3 n4
              generalize wn.setCell ⟨bt, 1, none⟩ (.slice a' (n + 1) c') = v8 at *
              have T := T3
              obtain ⟨n0, n1, n2, n3, n4⟩ := id T.1; obtain ⟨r0, r1, r2, r3, r4⟩ := id T.2.2.2.2.1
              go_wp2_with fail
              exact bodyPost_ret (v := .agg #[.int .i64 nx, .slice a' (n + 1) c']) (by simp (maxDischargeDepth := 6) [results, Try.results42, go_sem, *]) rfl ⟨_, _, _, _, G, rfl, by omega, hk2, Nw.result T hp hB⟩
        · go_simp
          refine (l1Below_any B p 2 _ T.2.2.1).mono ?_; rintro e v4 ⟨x1, rfl, x1l, x1h, _, _, cc, bb⟩; clear n0 n1 n2 n3 n4; (replace T := T.but cc bb hp hbt); clear cc bb; (obtain ⟨n0, n1, n2, n3, n4⟩ := id T.1); (have W1 : IntKind.i64.wrap (nx - 1) = nx - 1 := Go.IntWalk.i64_in _ ⟨by omega, by omega⟩); (have W2 : IntKind.i64.wrap (1000000000000 + x1) = 1000000000000 + x1 := Go.IntWalk.i64_in _ ⟨by omega, by omega⟩)
          (try go_wp2_with fail)
          refine hK.out _ _ ?_ (fun hHeld => ?_)
          · exact trivial
          clear hK K
          (try simp only [Act.put, List.setIfInBounds_toArray, List.set_cons_zero, List.set_cons_succ])
          refine wpAnyH_take (i := 7) (v := ?_) (by rw [List.getElem?_toArray]; rfl) (by kernel_rfl) (by kernel_rfl) (by kernel_rfl) (by intro _ _ _ h; exact h) (Or.inl ⟨by rfl, ?_⟩) (by assumption) ?_
          rotate_left
          · (intro w hSw; (try dsimp only at hSw); go_simp; all_goals with_reducible rfl)
          (try simp only [Act.put, List.setIfInBounds_toArray, List.set_cons_zero, List.set_cons_succ])
          refine wpAnyH_ready (rs := [1, 3]) (by kernel_rfl) (by simp) ?_
          refine (AllReadyH.cons (by rw [List.getElem?_toArray]; rfl) (fun K hK => ?_) (AllReadyH.cons (by rw [List.getElem?_toArray]; rfl) (fun K hK => ?_) AllReadyH.nil))
          · go_simp
            refine hK.out _ _ ?_ (fun hHeld => ?_)
            · exact trivial
            clear hK K
            (try simp only [Act.put, List.setIfInBounds_toArray, List.set_cons_zero, List.set_cons_succ])
            refine wpAnyH_ready (rs := [3]) (by kernel_rfl) (by simp) ?_
            refine (AllReadyH.cons (by rw [List.getElem?_toArray]; rfl) (fun K hK => ?_) AllReadyH.nil)
            go_simp
            refine hK.out _ _ ?_ (fun hHeld => ?_)
            · exact trivial
            clear hK K
            (try simp only [Act.put, List.setIfInBounds_toArray, List.set_cons_zero, List.set_cons_succ])
            refine wpAnyH_take (i := 4) (v := ?_) (by rw [List.getElem?_toArray]; rfl) (by kernel_rfl) (by kernel_rfl) (by kernel_rfl) (by intro _ _ _ h; exact h) (Or.inl ⟨by rfl, ?_⟩) (by assumption) ?_
            rotate_left
            · (intro w hSw; (try dsimp only at hSw); go_simp; all_goals with_reducible rfl)
            (try simp only [Act.put, List.setIfInBounds_toArray, List.set_cons_zero, List.set_cons_succ])
            refine wpAnyH_take (i := 8) (v := ?_) (by rw [List.getElem?_toArray]; rfl) (by kernel_rfl) (by kernel_rfl) (by kernel_rfl) (by intro _ _ _ h; exact h) (Or.inl ⟨by rfl, ?_⟩) (by assumption) ?_
            rotate_left
            · (intro w hSw; (try dsimp only at hSw); go_simp; all_goals with_reducible rfl)
            (try simp only [Act.put, List.setIfInBounds_toArray, List.set_cons_zero, List.set_cons_succ])
            refine wpAnyH_ready (rs := [9]) (by kernel_rfl) (by simp) ?_
            refine (AllReadyH.cons (by rw [List.getElem?_toArray]; rfl) (fun K hK => ?_) AllReadyH.nil)
            go_simp
            clear n0 n1 n2 n3 n4; (have bb := Below.nw v4 (.cells #[.int .i64 (nx - 1), .int .i64 0, .int .i64 0, .string ⟨#[]⟩, .int .i64 (1000000000000 + x1)] 30)); (have HN : Hid (∀ j u, (show List Value from [.int .i64 (nx - 1), .int .i64 0, .int .i64 0, .string ⟨#[]⟩, .int .i64 (1000000000000 + x1)])[j]? = some u → (v4.alloc (.cells #[.int .i64 (nx - 1), .int .i64 0, .int .i64 0, .string ⟨#[]⟩, .int .i64 (1000000000000 + x1)] 30)).cell? ((⟨v4.heap.size, 0, none⟩ : Addr).add j) = some u) := fun j u hj => five_at v4 (nx - 1) 0 0 ⟨#[]⟩ (1000000000000 + x1) 30 j u hj); (replace T := T.below bb); clear bb; generalize v4.heap.size = jb at *; generalize v4.alloc (.cells #[.int .i64 (nx - 1), .int .i64 0, .int .i64 0, .string ⟨#[]⟩, .int .i64 (1000000000000 + x1)] 30) = v6 at *; (have hsz : w.heap.size + 1 ≤ v6.heap.size := Nat.le_of_lt (Nat.lt_of_le_of_lt hbt T.1.1)); (obtain ⟨n0, n1, n2, n3, n4⟩ := id T.1)
            refine hK.out _ _ ?_ (fun hHeld => ?_)
            · exact trivial
            clear hK K
            (try simp only [Act.put, List.setIfInBounds_toArray, List.set_cons_zero, List.set_cons_succ])
            refine wpAnyH_ready (rs := [10]) (by kernel_rfl) (by simp) ?_
            refine (AllReadyH.cons (by rw [List.getElem?_toArray]; rfl) (fun K hK => ?_) AllReadyH.nil)
            rw [if_pos (by rfl)]; clear n0 n1 n2 n3 n4; refine wp_append_newF _ _ 24 rfl (w.heap.size + 1) 30 i0 (.agg #[.int .i64 0, .int .i64 0, .int .i64 0, .string ⟨#[]⟩, .int .i64 0]) 5 48 Try.underlying24 hi hz0 hz1 hz2 rfl (by decide) _ _ _ rfl T.2.1 ⟨jb, 0, none⟩ 1 1 [.int .i64 (nx - 1), .int .i64 0, .int .i64 0, .string ⟨#[]⟩, .int .i64 (1000000000000 + x1)] rfl rfl HN.out (five_one _ _ _ _ _) (by unfold maxLen; omega) (by omega) hsz ?_; intro v' wn hown' hgrow hfr; (have HR : wn.ownsRow (w.heap.size + 1) 30 5 v' (n + 1) (frow (insG M n (fT (nx - 1) 0 0 ⟨#[]⟩ (1000000000000 + x1))) (n + 1)) := (by have q := hown'; rw [frow_ins1 (fT (nx - 1) 0 0 ⟨#[]⟩ (1000000000000 + x1)) rfl] at q; exact q)); (obtain ⟨a', c', rfl, _, _, _⟩ := ownF_src HR); (have T3 := T.grow hp hB hbt hgrow HR hfr); (have KQ := T.1.keptG hgrow (fun e => T.2.2.2.2.2 bt e.symm rfl)); clear hgrow HN hsz T hown' hfr HR; (obtain ⟨n0, n1, n2, n3, n4⟩ := id KQ)
            refine hK.out _ _ ?_ (fun hHeld => ?_)
            · exact trivial
            clear hK K
            (try simp only [Act.put, List.setIfInBounds_toArray, List.set_cons_zero, List.set_cons_succ])
            refine wpAnyH_take (i := 11) (v := ?_) (by rw [List.getElem?_toArray]; rfl) (by kernel_rfl) (by kernel_rfl) (by kernel_rfl) (by intro _ _ _ h; exact h) (Or.inl ⟨by rfl, ?_⟩) (by assumption) ?_
            rotate_left
            · (intro w hSw; (try dsimp only at hSw); go_simp; all_goals with_reducible rfl)
            (try simp only [Act.put, List.setIfInBounds_toArray, List.set_cons_zero, List.set_cons_succ])
            refine wpAnyH_ready (rs := [12]) (by kernel_rfl) (by simp) ?_
            refine (AllReadyH.cons (by rw [List.getElem?_toArray]; rfl) (fun K hK => ?_) AllReadyH.nil)
            go_simp
            refine hK.out _ _ ?_ (fun hHeld => ?_)
            · exact trivial
            clear hK K
            (try simp only [Act.put, List.setIfInBounds_toArray, List.set_cons_zero, List.set_cons_succ])
            refine wpAnyH_done (by kernel_rfl) ?_ _
            have hk2 : fwf (insG M n (fT (nx - 1) 0 0 ⟨#[]⟩ (1000000000000 + x1))) (n + 1) := fwf_add hk (wf_small5 (x := (nx - 1)) ⟨by omega, by omega⟩) (show (⟨#[]⟩ : ByteArray).size ≤ 100 by decide)
            generalize hGG : insG M n (fT (nx - 1) 0 0 ⟨#[]⟩ (1000000000000 + x1)) = G at *
            clear KQ n0 n1 n2 n3 n4
            generalize wn.setCell ⟨bt, 1, none⟩ (.slice a' (n + 1) c') = v8 at *
            have T := T3
            obtain ⟨n0, n1, n2, n3, n4⟩ := id T.1; obtain ⟨r0, r1, r2, r3, r4⟩ := id T.2.2.2.2.1
            go_wp2_with fail
            exact bodyPost_ret (v := .agg #[.int .i64 nx, .slice a' (n + 1) c']) (by simp (maxDischargeDepth := 6) [results, Try.results42, go_sem, *]) rfl ⟨_, _, _, _, G, rfl, by omega, hk2, Nw.result T hp hB⟩
          · go_simp
            refine hK.out _ _ ?_ (fun hHeld => ?_)
            · exact trivial
            clear hK K
            (try simp only [Act.put, List.setIfInBounds_toArray, List.set_cons_zero, List.set_cons_succ])
            refine wpAnyH_take (i := 4) (v := ?_) (by rw [List.getElem?_toArray]; rfl) (by kernel_rfl) (by kernel_rfl) (by kernel_rfl) (by intro _ _ _ h; exact h) (Or.inl ⟨by rfl, ?_⟩) (by assumption) ?_
            rotate_left
            · (intro w hSw; (try dsimp only at hSw); go_simp; all_goals with_reducible rfl)
            (try simp only [Act.put, List.setIfInBounds_toArray, List.set_cons_zero, List.set_cons_succ])
            refine wpAnyH_take (i := 8) (v := ?_) (by rw [List.getElem?_toArray]; rfl) (by kernel_rfl) (by kernel_rfl) (by kernel_rfl) (by intro _ _ _ h; exact h) (Or.inl ⟨by rfl, ?_⟩) (by assumption) ?_
            rotate_left
            · (intro w hSw; (try dsimp only at hSw); go_simp; all_goals with_reducible rfl)
            (try simp only [Act.put, List.setIfInBounds_toArray, List.set_cons_zero, List.set_cons_succ])
            refine wpAnyH_ready (rs := [1, 9]) (by kernel_rfl) (by simp) ?_
            refine (AllReadyH.cons (by rw [List.getElem?_toArray]; rfl) (fun K hK => ?_) (AllReadyH.cons (by rw [List.getElem?_toArray]; rfl) (fun K hK => ?_) AllReadyH.nil))
            · go_simp
              refine hK.out _ _ ?_ (fun hHeld => ?_)
              · exact trivial
              clear hK K
              (try simp only [Act.put, List.setIfInBounds_toArray, List.set_cons_zero, List.set_cons_succ])
              refine wpAnyH_ready (rs := [9]) (by kernel_rfl) (by simp) ?_
              refine (AllReadyH.cons (by rw [List.getElem?_toArray]; rfl) (fun K hK => ?_) AllReadyH.nil)
              go_simp
              clear n0 n1 n2 n3 n4; (have bb := Below.nw v4 (.cells #[.int .i64 (nx - 1), .int .i64 0, .int .i64 0, .string ⟨#[]⟩, .int .i64 (1000000000000 + x1)] 30)); (have HN : Hid (∀ j u, (show List Value from [.int .i64 (nx - 1), .int .i64 0, .int .i64 0, .string ⟨#[]⟩, .int .i64 (1000000000000 + x1)])[j]? = some u → (v4.alloc (.cells #[.int .i64 (nx - 1), .int .i64 0, .int .i64 0, .string ⟨#[]⟩, .int .i64 (1000000000000 + x1)] 30)).cell? ((⟨v4.heap.size, 0, none⟩ : Addr).add j) = some u) := fun j u hj => five_at v4 (nx - 1) 0 0 ⟨#[]⟩ (1000000000000 + x1) 30 j u hj); (replace T := T.below bb); clear bb; generalize v4.heap.size = jb at *; generalize v4.alloc (.cells #[.int .i64 (nx - 1), .int .i64 0, .int .i64 0, .string ⟨#[]⟩, .int .i64 (1000000000000 + x1)] 30) = v6 at *; (have hsz : w.heap.size + 1 ≤ v6.heap.size := Nat.le_of_lt (Nat.lt_of_le_of_lt hbt T.1.1)); (obtain ⟨n0, n1, n2, n3, n4⟩ := id T.1)
              refine hK.out _ _ ?_ (fun hHeld => ?_)
              · exact trivial
              clear hK K
              (try simp only [Act.put, List.setIfInBounds_toArray, List.set_cons_zero, List.set_cons_succ])
              refine wpAnyH_ready (rs := [10]) (by kernel_rfl) (by simp) ?_
              refine (AllReadyH.cons (by rw [List.getElem?_toArray]; rfl) (fun K hK => ?_) AllReadyH.nil)
              rw [if_pos (by rfl)]; clear n0 n1 n2 n3 n4; refine wp_append_newF _ _ 24 rfl (w.heap.size + 1) 30 i0 (.agg #[.int .i64 0, .int .i64 0, .int .i64 0, .string ⟨#[]⟩, .int .i64 0]) 5 48 Try.underlying24 hi hz0 hz1 hz2 rfl (by decide) _ _ _ rfl T.2.1 ⟨jb, 0, none⟩ 1 1 [.int .i64 (nx - 1), .int .i64 0, .int .i64 0, .string ⟨#[]⟩, .int .i64 (1000000000000 + x1)] rfl rfl HN.out (five_one _ _ _ _ _) (by unfold maxLen; omega) (by omega) hsz ?_; intro v' wn hown' hgrow hfr; (have HR : wn.ownsRow (w.heap.size + 1) 30 5 v' (n + 1) (frow (insG M n (fT (nx - 1) 0 0 ⟨#[]⟩ (1000000000000 + x1))) (n + 1)) := (by have q := hown'; rw [frow_ins1 (fT (nx - 1) 0 0 ⟨#[]⟩ (1000000000000 + x1)) rfl] at q; exact q)); (obtain ⟨a', c', rfl, _, _, _⟩ := ownF_src HR); (have T3 := T.grow hp hB hbt hgrow HR hfr); (have KQ := T.1.keptG hgrow (fun e => T.2.2.2.2.2 bt e.symm rfl)); clear hgrow HN hsz T hown' hfr HR; (obtain ⟨n0, n1, n2, n3, n4⟩ := id KQ)
              refine hK.out _ _ ?_ (fun hHeld => ?_)
              · exact trivial
              clear hK K
              (try simp only [Act.put, List.setIfInBounds_toArray, List.set_cons_zero, List.set_cons_succ])
              refine wpAnyH_take (i := 11) (v := ?_) (by rw [List.getElem?_toArray]; rfl) (by kernel_rfl) (by kernel_rfl) (by kernel_rfl) (by intro _ _ _ h; exact h) (Or.inl ⟨by rfl, ?_⟩) (by assumption) ?_
              rotate_left
              · (intro w hSw; (try dsimp only at hSw); go_simp; all_goals with_reducible rfl)
              (try simp only [Act.put, List.setIfInBounds_toArray, List.set_cons_zero, List.set_cons_succ])
              refine wpAnyH_ready (rs := [12]) (by kernel_rfl) (by simp) ?_
              refine (AllReadyH.cons (by rw [List.getElem?_toArray]; rfl) (fun K hK => ?_) AllReadyH.nil)
              go_simp
              refine hK.out _ _ ?_ (fun hHeld => ?_)
              · exact trivial
              clear hK K
              (try simp only [Act.put, List.setIfInBounds_toArray, List.set_cons_zero, List.set_cons_succ])
              refine wpAnyH_done (by kernel_rfl) ?_ _
              have hk2 : fwf (insG M n (fT (nx - 1) 0 0 ⟨#[]⟩ (1000000000000 + x1))) (n + 1) := fwf_add hk (wf_small5 (x := (nx - 1)) ⟨by omega, by omega⟩) (show (⟨#[]⟩ : ByteArray).size ≤ 100 by decide)
              generalize hGG : insG M n (fT (nx - 1) 0 0 ⟨#[]⟩ (1000000000000 + x1)) = G at *
              clear KQ n0 n1 n2 n3 n4
              generalize wn.setCell ⟨bt, 1, none⟩ (.slice a' (n + 1) c') = v8 at *
              have T := T3
              obtain ⟨n0, n1, n2, n3, n4⟩ := id T.1; obtain ⟨r0, r1, r2, r3, r4⟩ := id T.2.2.2.2.1
              go_wp2_with fail
              exact bodyPost_ret (v := .agg #[.int .i64 nx, .slice a' (n + 1) c']) (by simp (maxDischargeDepth := 6) [results, Try.results42, go_sem, *]) rfl ⟨_, _, _, _, G, rfl, by omega, hk2, Nw.result T hp hB⟩
            · go_simp
              clear n0 n1 n2 n3 n4; (have bb := Below.nw v4 (.cells #[.int .i64 (nx - 1), .int .i64 0, .int .i64 0, .string ⟨#[]⟩, .int .i64 (1000000000000 + x1)] 30)); (have HN : Hid (∀ j u, (show List Value from [.int .i64 (nx - 1), .int .i64 0, .int .i64 0, .string ⟨#[]⟩, .int .i64 (1000000000000 + x1)])[j]? = some u → (v4.alloc (.cells #[.int .i64 (nx - 1), .int .i64 0, .int .i64 0, .string ⟨#[]⟩, .int .i64 (1000000000000 + x1)] 30)).cell? ((⟨v4.heap.size, 0, none⟩ : Addr).add j) = some u) := fun j u hj => five_at v4 (nx - 1) 0 0 ⟨#[]⟩ (1000000000000 + x1) 30 j u hj); (replace T := T.below bb); clear bb; generalize v4.heap.size = jb at *; generalize v4.alloc (.cells #[.int .i64 (nx - 1), .int .i64 0, .int .i64 0, .string ⟨#[]⟩, .int .i64 (1000000000000 + x1)] 30) = v6 at *; (have hsz : w.heap.size + 1 ≤ v6.heap.size := Nat.le_of_lt (Nat.lt_of_le_of_lt hbt T.1.1)); (obtain ⟨n0, n1, n2, n3, n4⟩ := id T.1)
              refine hK.out _ _ ?_ (fun hHeld => ?_)
              · exact trivial
              clear hK K
              (try simp only [Act.put, List.setIfInBounds_toArray, List.set_cons_zero, List.set_cons_succ])
              refine wpAnyH_ready (rs := [1]) (by kernel_rfl) (by simp) ?_
              refine (AllReadyH.cons (by rw [List.getElem?_toArray]; rfl) (fun K hK => ?_) AllReadyH.nil)
              go_simp
              refine hK.out _ _ ?_ (fun hHeld => ?_)
              · exact trivial
              clear hK K
              (try simp only [Act.put, List.setIfInBounds_toArray, List.set_cons_zero, List.set_cons_succ])
              refine wpAnyH_ready (rs := [10]) (by kernel_rfl) (by simp) ?_
              refine (AllReadyH.cons (by rw [List.getElem?_toArray]; rfl) (fun K hK => ?_) AllReadyH.nil)
              rw [if_pos (by rfl)]; clear n0 n1 n2 n3 n4; refine wp_append_newF _ _ 24 rfl (w.heap.size + 1) 30 i0 (.agg #[.int .i64 0, .int .i64 0, .int .i64 0, .string ⟨#[]⟩, .int .i64 0]) 5 48 Try.underlying24 hi hz0 hz1 hz2 rfl (by decide) _ _ _ rfl T.2.1 ⟨jb, 0, none⟩ 1 1 [.int .i64 (nx - 1), .int .i64 0, .int .i64 0, .string ⟨#[]⟩, .int .i64 (1000000000000 + x1)] rfl rfl HN.out (five_one _ _ _ _ _) (by unfold maxLen; omega) (by omega) hsz ?_; intro v' wn hown' hgrow hfr; (have HR : wn.ownsRow (w.heap.size + 1) 30 5 v' (n + 1) (frow (insG M n (fT (nx - 1) 0 0 ⟨#[]⟩ (1000000000000 + x1))) (n + 1)) := (by have q := hown'; rw [frow_ins1 (fT (nx - 1) 0 0 ⟨#[]⟩ (1000000000000 + x1)) rfl] at q; exact q)); (obtain ⟨a', c', rfl, _, _, _⟩ := ownF_src HR); (have T3 := T.grow hp hB hbt hgrow HR hfr); (have KQ := T.1.keptG hgrow (fun e => T.2.2.2.2.2 bt e.symm rfl)); clear hgrow HN hsz T hown' hfr HR; (obtain ⟨n0, n1, n2, n3, n4⟩ := id KQ)
              refine hK.out _ _ ?_ (fun hHeld => ?_)
              · exact trivial
              clear hK K
              (try simp only [Act.put, List.setIfInBounds_toArray, List.set_cons_zero, List.set_cons_succ])
              refine wpAnyH_take (i := 11) (v := ?_) (by rw [List.getElem?_toArray]; rfl) (by kernel_rfl) (by kernel_rfl) (by kernel_rfl) (by intro _ _ _ h; exact h) (Or.inl ⟨by rfl, ?_⟩) (by assumption) ?_
              rotate_left
              · (intro w hSw; (try dsimp only at hSw); go_simp; all_goals with_reducible rfl)
              (try simp only [Act.put, List.setIfInBounds_toArray, List.set_cons_zero, List.set_cons_succ])
              refine wpAnyH_ready (rs := [12]) (by kernel_rfl) (by simp) ?_
              refine (AllReadyH.cons (by rw [List.getElem?_toArray]; rfl) (fun K hK => ?_) AllReadyH.nil)
              go_simp
              refine hK.out _ _ ?_ (fun hHeld => ?_)
              · exact trivial
              clear hK K
              (try simp only [Act.put, List.setIfInBounds_toArray, List.set_cons_zero, List.set_cons_succ])
              refine wpAnyH_done (by kernel_rfl) ?_ _
              have hk2 : fwf (insG M n (fT (nx - 1) 0 0 ⟨#[]⟩ (1000000000000 + x1))) (n + 1) := fwf_add hk (wf_small5 (x := (nx - 1)) ⟨by omega, by omega⟩) (show (⟨#[]⟩ : ByteArray).size ≤ 100 by decide)
              generalize hGG : insG M n (fT (nx - 1) 0 0 ⟨#[]⟩ (1000000000000 + x1)) = G at *
              clear KQ n0 n1 n2 n3 n4
              generalize wn.setCell ⟨bt, 1, none⟩ (.slice a' (n + 1) c') = v8 at *
              have T := T3
              obtain ⟨n0, n1, n2, n3, n4⟩ := id T.1; obtain ⟨r0, r1, r2, r3, r4⟩ := id T.2.2.2.2.1
              go_wp2_with fail
              exact bodyPost_ret (v := .agg #[.int .i64 nx, .slice a' (n + 1) c']) (by simp (maxDischargeDepth := 6) [results, Try.results42, go_sem, *]) rfl ⟨_, _, _, _, G, rfl, by omega, hk2, Nw.result T hp hB⟩
      · obtain ⟨n0, n1, n2, n3, n4⟩ := id T.1; obtain ⟨r0, r1, r2, r3, r4⟩ := id T.2.2.2.2.1
        go_wp2_with fail
        exact bodyPost_ret (v := .agg #[.int .i64 nx, .slice A n c]) (by simp (maxDischargeDepth := 6) [results, Try.results42, go_sem, *]) rfl ⟨_, _, _, _, M, rfl, by omega, hk, Nw.result T hp hB⟩
end Go.Proofs.Ytgfhcilhibbooaa
namespace Go.Proofs.Ytgfhcilhibbooaa
open Go.RowKit
set_option linter.unusedVariables false
set_option maxHeartbeats 1000000 in
theorem l5DrawAt_any (B p : Nat) (k : Int) (w : World) (hcur : CurOk w B p) (h0 : 0 ≤ k) (h1 : k ≤ 100) :
    Calls Try.prog 43 #[.pointer (some ⟨p, 0, none⟩), .int .i64 k] w fun e w' => ∃ x : Int, e = .returned (.int .i64 x) ∧ CurOk w' B p ∧ But p w w' := by
  go_enter Try.func43, Try.ntmps43
  go_wp2_with fail
  refine (l1Below_any B p _ _ hcur).mono ?_
  rintro e w1 ⟨x, rfl, _, _, _, _, c1, b1⟩
  go_wp2_with fail
  refine (l1Below_any B p _ _ c1).mono ?_
  rintro e w2 ⟨y, rfl, yl, yh, _, _, c2, b2⟩
  go_wp2_with fail
  go_ret
  exact ⟨_, rfl, c2, b1.trans b2⟩
set_option maxRecDepth 100000 in
set_option maxHeartbeats 8000000 in
theorem l5DrawPlace_any (a : Option Addr) (n c : Nat) (w : World) (hn : n ≤ 1048576) (hcode : CodeB w w.heap.size a n) :
    Calls Try.prog 20 #[.slice a n c] w fun e w' => ∃ (nx : Int) (A : Option Addr) (m c' : Nat) (M : Nat → FT) (nd : Int), e = .returned (.tuple #[.agg #[.int .i64 nx, .slice A m c'], .int .i64 nd]) ∧ m ≤ 41 ∧ fwf M m ∧ w'.ownsRow w.heap.size 30 5 (.slice A m c') m (frow M m) ∧ Below w.heap.size w w' := by
  have HC : Hid (CodeB w w.heap.size a n) := hcode
  clear hcode
  have R := B2.new w (.int .i64 0) (.slice none 0 0) 26
  have B := Below.nw w (.cells #[.int .i64 0, .slice none 0 0] 26)
  have HC2 : Hid (CodeB (w.alloc (.cells #[.int .i64 0, .slice none 0 0] 26)) (w.alloc (.cells #[.int .i64 0, .slice none 0 0] 26)).heap.size a n) := (HC.out.below B).more (by simp)
  have hsz0 : (w.alloc (.cells #[.int .i64 0, .slice none 0 0] 26)).heap.size = w.heap.size + 1 := by simp
  go_enter Try.func20, Try.ntmps20
  go_wp2_with fail
  refine (l1New_any a n c _ hn HC2.out).mono ?_
  rintro e w1 ⟨p, rfl, C, hb⟩
  rw [hsz0] at C
  have hpp := C.lt
  replace R := R.below hb
  replace B := B.trans (hb.mono B.size)
  have hw1 : w.heap.size + 1 ≤ w1.heap.size := by have := hb.size; omega
  clear hb HC HC2 hsz0
  have hwp : w.heap.size ≤ p := by omega
  have hrp : w.heap.size ≠ p := by omega
  have hp1 : p < w1.heap.size := hpp.1
  go_wp2_with fail
  refine (l5DrawAny_any _ p _ C).mono ?_
  rintro e w2 ⟨nx, A, m, c', M, rfl, hm, hk, O, C2, hb⟩
  clear C
  replace R := R.but hb hrp
  replace B := B.trans (hb.below hwp B.size)
  have hs2 := hb.2.2.2.1
  clear hb
  have A2 := Below.nw w2 (.cells #[.int .i64 nx, .slice A m c'] 26)
  have N := B2.new w2 (.int .i64 nx) (.slice A m c') 26
  have HO : ∀ g, (Value.slice A m c').ownBlock = some g → w.heap.size ≠ g := fun g hg => by have := (World.ownsRow.lt O g hg).1; omega
  replace O := own_belowF O A2
  replace R := R.below A2
  have C := C2.below A2
  replace B := B.trans (A2.mono B.size)
  have hnp : w2.heap.size ≠ p := by omega
  have hnw : w2.heap.size ≠ w.heap.size := by omega
  clear A2 C2 hs2
  go_upto_region 3 with fail
  generalize w2.heap.size = bt at *
  generalize w2.alloc (.cells #[.int .i64 nx, .slice A m c'] 26) = v at *
  obtain ⟨n0, n1, n2, n3, n4⟩ := id N
  obtain ⟨r0, r1, r2, r3, r4⟩ := id R
  refine wp_region_held_drew (S := (fun w' => w'.cell? ⟨bt, 0, none⟩ = some (.int .i64 nx) ∧ w'.cell? ⟨bt, 1, none⟩ = some (.slice A m c'))) (by kernel_rfl) ?_ (fun hHeld => ?_)
  · first | exact ⟨n1, n2⟩ | exact ⟨s1, s2⟩ | (simp (maxDischargeDepth := 6) [go_sem, *]; done)
  clear n0 n1 n2 n3 n4 r0 r1 r2 r3 r4
  replace N := N.drew
  replace R := R.drew
  replace B := Below.drew B
  replace C := CurOk.drew C
  have O : (World.drew v).ownsRow w1.heap.size 30 5 (.slice A m c') m (frow M m) := O
  generalize v.drew = v at *
  obtain ⟨n0, n1, n2, n3, n4⟩ := id N
  obtain ⟨r0, r1, r2, r3, r4⟩ := id R
  refine wpAnyH_take (i := 0) (v := ?_) (by rw [List.getElem?_toArray]; rfl) (by kernel_rfl) (by kernel_rfl) (by kernel_rfl) (by intro _ _ _ h; exact h) (Or.inl ⟨by rfl, ?_⟩) (by assumption) ?_
  rotate_left
  · (intro w hSw; (try dsimp only at hSw); go_simp; all_goals with_reducible rfl)
  (try simp only [Act.put, List.setIfInBounds_toArray, List.set_cons_zero, List.set_cons_succ])
  refine wpAnyH_take (i := 1) (v := ?_) (by rw [List.getElem?_toArray]; rfl) (by kernel_rfl) (by kernel_rfl) (by kernel_rfl) (by intro _ _ _ h; exact h) (Or.inl ⟨by rfl, ?_⟩) (by assumption) ?_
  rotate_left
  · (intro w hSw; (try dsimp only at hSw); go_simp; all_goals with_reducible rfl)
  (try simp only [Act.put, List.setIfInBounds_toArray, List.set_cons_zero, List.set_cons_succ])
  refine wpAnyH_take (i := 2) (v := ?_) (by rw [List.getElem?_toArray]; rfl) (by kernel_rfl) (by kernel_rfl) (by kernel_rfl) (by intro _ _ _ h; exact h) (Or.inl ⟨by rfl, ?_⟩) (by assumption) ?_
  rotate_left
  · (intro w hSw; (try dsimp only at hSw); go_simp; all_goals with_reducible rfl)
  (try simp only [Act.put, List.setIfInBounds_toArray, List.set_cons_zero, List.set_cons_succ])
  refine wpAnyH_take (i := 3) (v := ?_) (by rw [List.getElem?_toArray]; rfl) (by kernel_rfl) (by kernel_rfl) (by kernel_rfl) (by intro _ _ _ h; exact h) (Or.inl ⟨by rfl, ?_⟩) (by assumption) ?_
  rotate_left
  · (intro w hSw; (try dsimp only at hSw); go_simp; all_goals with_reducible rfl)
  (try simp only [Act.put, List.setIfInBounds_toArray, List.set_cons_zero, List.set_cons_succ])
  refine wpAnyH_take (i := 4) (v := ?_) (by rw [List.getElem?_toArray]; rfl) (by kernel_rfl) (by kernel_rfl) (by kernel_rfl) (by intro _ _ _ h; exact h) (Or.inl ⟨by rfl, ?_⟩) (by assumption) ?_
  rotate_left
  · (intro w hSw; (try dsimp only at hSw); go_simp; all_goals with_reducible rfl)
  (try simp only [Act.put, List.setIfInBounds_toArray, List.set_cons_zero, List.set_cons_succ])
  refine wpAnyH_ready (rs := [5]) (by kernel_rfl) (by simp) ?_
  refine (AllReadyH.cons (by rw [List.getElem?_toArray]; rfl) (fun K hK => ?_) AllReadyH.nil)
  go_simp
  refine (l5DrawAt_any _ p _ _ C (by omega) (by omega)).mono ?_; rintro e v ⟨y1, rfl, C', hb⟩; clear C; (have C := C'); clear C' n0 n1 n2 n3 n4 r0 r1 r2 r3 r4; (replace N := N.but hb hnp); (replace R := R.but hb hrp); (replace O := own_butF O hb hp1); (replace B := B.trans (hb.below hwp B.size)); clear hb; obtain ⟨n0, n1, n2, n3, n4⟩ := id N; obtain ⟨r0, r1, r2, r3, r4⟩ := id R; (have s1 : ((v.setCell ⟨w.heap.size, 0, none⟩ (.int .i64 nx)).setCell ⟨w.heap.size, 1, none⟩ (.slice A m c')).cell? ⟨bt, 0, none⟩ = some (.int .i64 nx) := (World.cell?_setCell_other _ _ _ _ (by simp; try omega)).trans ((World.cell?_setCell_other _ _ _ _ (by simp; try omega)).trans n1)); (have s2 : ((v.setCell ⟨w.heap.size, 0, none⟩ (.int .i64 nx)).setCell ⟨w.heap.size, 1, none⟩ (.slice A m c')).cell? ⟨bt, 1, none⟩ = some (.slice A m c') := (World.cell?_setCell_other _ _ _ _ (by simp; try omega)).trans ((World.cell?_setCell_other _ _ _ _ (by simp; try omega)).trans n2))
  (try go_wp2_with fail)
  refine hK.out _ _ ?_ (fun hHeld => ?_)
  · first | exact ⟨n1, n2⟩ | exact ⟨s1, s2⟩ | (simp (maxDischargeDepth := 6) [go_sem, *]; done)
  clear hK K
  (try simp only [Act.put, List.setIfInBounds_toArray, List.set_cons_zero, List.set_cons_succ])
  refine wpAnyH_ready (rs := [6]) (by kernel_rfl) (by simp) ?_
  refine (AllReadyH.cons (by rw [List.getElem?_toArray]; rfl) (fun K hK => ?_) AllReadyH.nil)
  go_simp
  refine hK.out _ _ ?_ (fun hHeld => ?_)
  · first | exact ⟨n1, n2⟩ | exact ⟨s1, s2⟩ | (simp (maxDischargeDepth := 6) [go_sem, *]; done)
  clear hK K
  (try simp only [Act.put, List.setIfInBounds_toArray, List.set_cons_zero, List.set_cons_succ])
  refine wpAnyH_take (i := 7) (v := ?_) (by rw [List.getElem?_toArray]; rfl) (by kernel_rfl) (by kernel_rfl) (by kernel_rfl) (by intro _ _ _ h; exact h) (Or.inl ⟨by rfl, ?_⟩) (by assumption) ?_
  rotate_left
  · (intro w hSw; (try dsimp only at hSw); go_simp; all_goals with_reducible rfl)
  (try simp only [Act.put, List.setIfInBounds_toArray, List.set_cons_zero, List.set_cons_succ])
  refine wpAnyH_done (by kernel_rfl) ?_ _
  have hq : But w.heap.size v ((v.setCell ⟨w.heap.size, 0, none⟩ (.int .i64 nx)).setCell ⟨w.heap.size, 1, none⟩ (.slice A m c')) := ((But.refl _ v).setCell 0 _).setCell 1 _
  have B9 : Below w.heap.size w ((v.setCell ⟨w.heap.size, 0, none⟩ (.int .i64 nx)).setCell ⟨w.heap.size, 1, none⟩ (.slice A m c')) := B.trans (hq.below (Nat.le_refl _) B.size)
  have R9 : B2 ((v.setCell ⟨w.heap.size, 0, none⟩ (.int .i64 nx)).setCell ⟨w.heap.size, 1, none⟩ (.slice A m c')) w.heap.size (.int .i64 nx) (.slice A m c') := R.setB _ _
  have O9 : ((v.setCell ⟨w.heap.size, 0, none⟩ (.int .i64 nx)).setCell ⟨w.heap.size, 1, none⟩ (.slice A m c')).ownsRow w1.heap.size 30 5 (.slice A m c') m (frow M m) := own_neF O hq (fun g hg e => HO g hg e.symm)
  clear n0 n1 n2 n3 n4 r0 r1 r2 r3 r4 s1 s2 N R O B C hHeld hq HO
  generalize ((v.setCell ⟨w.heap.size, 0, none⟩ (.int .i64 nx)).setCell ⟨w.heap.size, 1, none⟩ (.slice A m c')) = w9 at *
  obtain ⟨m0, m1, m2, m3, m4⟩ := R9
  go_wp2_with fail
  exact bodyPost_ret (v := .tuple #[.agg #[.int .i64 nx, .slice A m c'], .int .i64 _]) (by simp (maxDischargeDepth := 6) [results, Try.results20, go_sem, m1, m2]; rfl) rfl ⟨nx, A, m, c', M, _, rfl, hm, hk, ownF_le O9 (by omega), B9⟩
set_option maxRecDepth 100000 in
set_option maxHeartbeats 4000000 in
theorem DrawNetTake_any (a : Option Addr) (n c : Nat) (w : World) (hn : n ≤ 1048576) (hcode : CodeB w w.heap.size a n) :
    Calls Try.prog 6 #[.slice a n c] w fun e w' => ∃ (nx : Int) (A : Option Addr) (m c' : Nat) (M : Nat → FT) (nd : Int), e = .returned (.tuple #[.agg #[.int .i64 nx, .slice A m c'], .int .i64 nd]) ∧ m ≤ 41 ∧ fwf M m ∧ w'.ownsRow w.heap.size 30 5 (.slice A m c') m (frow M m) ∧ Below w.heap.size w w' := by
  have HC : Hid (CodeB w w.heap.size a n) := hcode
  clear hcode
  have R := B2.new w (.int .i64 0) (.slice none 0 0) 26
  have B := Below.nw w (.cells #[.int .i64 0, .slice none 0 0] 26)
  have HC2 : Hid (CodeB (w.alloc (.cells #[.int .i64 0, .slice none 0 0] 26)) (w.alloc (.cells #[.int .i64 0, .slice none 0 0] 26)).heap.size a n) := (HC.out.below B).more (by simp)
  have hsz0 : (w.alloc (.cells #[.int .i64 0, .slice none 0 0] 26)).heap.size = w.heap.size + 1 := by simp
  go_enter Try.func6, Try.ntmps6
  go_wp2_with fail
  refine (l5DrawPlace_any a n c _ hn HC2.out).mono ?_
  rintro e w1 ⟨nx, A, m, c', M, nd, rfl, hm, hk, O, hb⟩
  rw [hsz0] at O
  replace R := R.below hb
  replace B := B.trans (hb.mono B.size)
  clear hb HC HC2 hsz0
  have A2 := Below.nw w1 (.cells #[.int .i64 nx, .slice A m c'] 26)
  have N := NB.new w1 nx A m c' 26
  replace O := own_belowF O A2
  replace R := R.below A2
  replace B := B.trans (A2.mono B.size)
  clear A2
  go_upto_region 2 with fail
  generalize w1.heap.size = bt at *
  generalize w1.alloc (.cells #[.int .i64 nx, .slice A m c'] 26) = v at *
  obtain ⟨n0, n1, n2⟩ := id N
  obtain ⟨r0, r1, r2, r3, r4⟩ := id R
  have hq : But w.heap.size v ((v.setCell ⟨w.heap.size, 0, none⟩ (.int .i64 nx)).setCell ⟨w.heap.size, 1, none⟩ (.slice A m c')) := ((But.refl _ v).setCell 0 _).setCell 1 _
  have O9 := own_butF O hq (by omega)
  have B9 := B.trans (hq.below (Nat.le_refl _) B.size)
  have R9 := R.setB (.int .i64 nx) (.slice A m c')
  go_wp2_with fail
  clear n0 n1 n2 r0 r1 r2 r3 r4 hq O B R N
  generalize ((v.setCell ⟨w.heap.size, 0, none⟩ (.int .i64 nx)).setCell ⟨w.heap.size, 1, none⟩ (.slice A m c')) = w9 at *
  obtain ⟨m0, m1, m2, m3, m4⟩ := R9
  exact bodyPost_ret (v := .tuple #[.agg #[.int .i64 nx, .slice A m c'], .int .i64 nd]) (by simp (maxDischargeDepth := 6) [results, Try.results6, go_sem, m1, m2]) rfl ⟨nx, A, m, c', M, nd, rfl, hm, hk, ownF_le O9 (by omega), B9⟩
end Go.Proofs.Ytgfhcilhibbooaa
namespace Go.Proofs.Ytgfhcilhibbooaa
open Go.RowKit
set_option linter.unusedVariables false
set_option maxHeartbeats 4000000 in
theorem implNetDrop_any (nx i : Int) (b n c : Nat) (M : Nat → FT) (X : Int) (m : Nat) (G : Nat → FT) (y0 y1 y2 : Int) (y3 : ByteArray) (y4 : Int) (C : Int) (w : World) (hm : n ≤ maxLen) (hf : Cs w b 0 (n * 5) (MFFlight M)) (hs : ∀ i, i < n → ((M i).2.2.2.1).size ≤ maxLen) (hw : ∀ i, i < n → (Lit.int .i64 (M i).1).wf = true) (h : TkIs nx M n i X m G (y0, y1, y2, y3, y4) C) :
    Calls Try.prog 9 #[.agg #[.int .i64 nx, .slice (some ⟨b, 0, none⟩) n c], .int .i64 i] w fun e w' => ∃ a' c', e = .returned (.tuple #[.agg #[.int .i64 X, .slice a' m c'], .int .i64 C]) ∧ w'.ownsRow w.heap.size 30 5 (.slice a' m c') m (frow G m) ∧ Below w.heap.size w w' := by
  have A1 := Below.nw w (.cells #[.int .i64 nx, .slice (some ⟨b, 0, none⟩) n c] 26)
  have B := A1.alloc A1.size (.cells #[.int .i64 0, .slice none 0 0] 26)
  have R := B2.new (w.alloc (.cells #[.int .i64 nx, .slice (some ⟨b, 0, none⟩) n c] 26)) (.int .i64 0) (.slice none 0 0) 26
  have CS := hf.below B hf.1
  have CT := implNetTake_any nx i b n c M X m G y0 y1 y2 y3 y4 C _ hm CS hs hw h
  simp only [World.size_alloc] at R
  have hS : w.heap.size + 1 < ((w.alloc (.cells #[.int .i64 nx, .slice (some ⟨b, 0, none⟩) n c] 26)).alloc (.cells #[.int .i64 0, .slice none 0 0] 26)).heap.size := by simp
  clear hf hs hw h A1 CS
  go_enter Try.func9, Try.ntmps9
  go_wp2_with fail
  refine CT.mono ?_
  rintro e v ⟨a', c', rfl, S0, hb⟩
  replace B := B.trans (hb.mono B.size)
  replace R := R.below hb
  clear hb CT
  have A2 := Below.nw v (.cells #[.int .i64 X, .slice a' m c'] 26)
  have A3 := Below.nw (v.alloc (.cells #[.int .i64 X, .slice a' m c'] 26)) (.cells #[.int .i64 y0, .int .i64 y1, .int .i64 y2, .string y3, .int .i64 y4] 30)
  have hv := R.1
  replace R := (R.below A2).below A3
  replace S0 := own_belowF (own_belowF S0 A2) A3
  have K := (NB.new v X a' m c' 26).below A3
  replace B := (B.trans (A2.mono B.size)).trans (A3.mono (B.trans (A2.mono B.size)).size)
  clear A2 A3
  obtain ⟨r0, r1, r2, r3, r4⟩ := id R
  obtain ⟨k0, k1, k2⟩ := id K
  go_wp2_with fail
  generalize (v.alloc (.cells #[.int .i64 X, .slice a' m c'] 26)).alloc (.cells #[.int .i64 y0, .int .i64 y1, .int .i64 y2, .string y3, .int .i64 y4] 30) = v2 at *
  have PB := ((But.refl (w.heap.size + 1) v2).setCell 0 (.int .i64 X)).setCell 1 (.slice a' m c')
  exact bodyPost_ret (v := .tuple #[.agg #[.int .i64 X, .slice a' m c'], .int .i64 C]) (by simp (maxDischargeDepth := 6) [results, Try.results9, go_sem, *]) rfl ⟨a', c', rfl, ownB_le (own_butF S0 PB hS) (by simp; omega), B.trans (PB.below (by omega) B.size)⟩
end Go.Proofs.Ytgfhcilhibbooaa
