/- Plans beside the cursor; the draw of a plan. -/
import Derived.Test.YtkdbgchmknanlaaB139
import Derived.Test.YtkdbgchmknanlaaD2
import Derived.Test.YtkdbgchmknanlaaD4
import Derived.Test.YtkdbgchmknanlaaD3
import Derived.Deep.RegionHeld3
import Derived.WalkKit
import Derived.WalkSpells
import Derived.WalkLawsBesides
import Derived.Deep.RegionHeld
namespace Go.Proofs.Ytkdbgchmknanlaa
open Go.RowKit
set_option linter.unusedVariables false
/- A plan in a box beside the cursor, its slots in a row of one's own. -/
def insS (M : Nat → SlT) (n : Nat) (q : SlT) (i : Nat) : SlT := if i < n then M i else q
def updS (M : Nat → SlT) (q : SlT) (i : Nat) : SlT := if i = 0 then q else M i
theorem srow_ins (M : Nat → SlT) (n : Nat) (q : SlT) : srow (insS M n q) (n + 1) = srow M n ++ [.int .i64 q.1, .int .i64 q.2] := by
  rw [srow, mapF_add, srow]
  congr 1
  · refine List.map_congr_left fun c hc => ?_
    have hc' : c < n * 2 := List.mem_range.1 hc
    show MCSlot (insS M n q (c / 2)) _ = MCSlot (M (c / 2)) _
    rw [insS, if_pos (by omega)]
  · show [MFSlot (insS M n q) (n * 2 + 0), MFSlot (insS M n q) (n * 2 + 1)] = _
    rw [MFSlot_at _ _ 0 (by decide), MFSlot_at _ _ 1 (by decide), insS, if_neg (by omega)]
    rfl
theorem But.new13 {w w' w'' : World} {p j : Nat} (h : But p w w') (hb : But j w' w'') (hj : w.heap.size ≤ j) : But p w w'' :=
  ⟨hb.1.trans h.1, hb.2.1.trans h.2.1, hb.2.2.1.trans h.2.2.1, Nat.le_trans h.2.2.2.1 hb.2.2.2.1, fun k hk hp => (hb.2.2.2.2 k (Nat.lt_of_lt_of_le hk h.2.2.2.1) (by omega)).trans (h.2.2.2.2 k hk hp)⟩
theorem But.grow13 {w w' w'' : World} {p : Nat} {o : Option Nat} (h : But p w w') (hg : w'.grownBy w'' o) (ho : ∀ q, q < w.heap.size → some q ≠ o) : But p w w'' :=
  ⟨hg.os.trans h.1, hg.tape.trans h.2.1, hg.output.trans h.2.2.1, Nat.le_trans h.2.2.2.1 hg.size, fun k hk hp => (hg.block k (Nat.lt_of_lt_of_le hk h.2.2.2.1) (ho k hk)).trans (h.2.2.2.2 k hk hp)⟩
theorem But.one13 (w : World) (j o : Nat) (u : Value) : But j w (w.setCell ⟨j, o, none⟩ u) := (But.refl j w).setCell o u
theorem CurOk.below13 {w w' : World} {B p base : Nat} (h : CurOk w B p) (hb : Below base w w') (hp : p < base) : CurOk w' B p := by
  obtain ⟨a, n, c, i, hh, h0, h1, h2, f0, f1, f2, hi, hn, hc, hB, hpw⟩ := h
  refine ⟨a, n, c, i, hh, ?_, ?_, ?_, ?_, ?_, ?_, hi, hn, hc.below (hb.mono (by omega)), hB, Nat.lt_of_lt_of_le hpw hb.size⟩
  · rw [hb.cell (p := ⟨p, 0, none⟩) hp]; exact h0
  · rw [hb.cell (p := ⟨p, 1, none⟩) hp]; exact h1
  · rw [hb.cell (p := ⟨p, 2, none⟩) hp]; exact h2
  · rw [hb.frozen (p := ⟨p, 0, none⟩) hp]; exact f0
  · rw [hb.frozen (p := ⟨p, 1, none⟩) hp]; exact f1
  · rw [hb.frozen (p := ⟨p, 2, none⟩) hp]; exact f2
theorem wp_append13 {P : Program} {w : World} {o : Oper} {a : Act} {K : Act → World → Prop} {Q : Exit → Act → World → Prop} (s x : Operand) (t : TypeId)
    (ho : o.op = .call { callee := .builtin .append, args := #[s, x], argTypes := #[t, t] })
    (base : Nat) (e : TypeId) (i : TypeInfo) (z : Value) (size bytes : Nat) (ht : P.underlying t = some (.slice e)) (hi : P.info? e = some i) (hz : i.zero = some z)
    (hsize : i.size = size) (hby : i.bytes = bytes) (hzs : z.cells.size = size) (hsz : 0 < size)
    (v : Value) (n : Nat) (xs : List Value) (hs : a.eval s = v) (hown : w.ownsRow base e size v n xs)
    (ad : Addr) (m c : Nat) (news : List Value) (hx : a.eval x = .slice (some ad) m c) (hl : news.length = m * size) (hnews : ∀ j u, news[j]? = some u → w.cell? (ad.add j) = some u) (h1 : ∀ u ∈ news, u.oneCell' = true)
    (h63 : n + m ≤ maxLen) (hbytes : (n + m) * bytes ≤ 140737488355328) (hbase : base ≤ w.heap.size)
    (h : ∀ v' w', w'.ownsRow base e size v' (n + m) (xs ++ news) → w.grownBy w' v.ownBlock → (∀ g, v'.ownBlock = some g → v.ownBlock = some g ∨ w.heap.size ≤ g) → K (a.put o.dst v') w') : o.wp P a w K Q := by
  obtain ⟨v', w', hr, h2, h3, h4⟩ := run_append_new (P := P) w base t o.type e i z size bytes ht hi hz hsize hby hzs hsz v n xs hown ad m c news hl hnews h1 h63 hbytes hbase
  unfold Oper.wp execOp
  simp only [ho, resolve, invoke, builtin, Sem.run_bind, Sem.run_pure, Result.andThen_ok, List.map_toArray, List.map_cons, List.map_nil, hs, hx, hr]
  exact h v' w' h2 h3 h4
theorem slot_one (x y : Int) : ∀ u ∈ [Value.int .i64 x, .int .i64 y], u.oneCell' = true := by
  intro u hu
  simp at hu
  rcases hu with rfl | rfl <;> rfl
theorem slot_at (w : World) (x y : Int) : ∀ j u, [Value.int .i64 x, .int .i64 y][j]? = some u → (w.alloc (.cells #[.int .i64 x, .int .i64 y] 60)).cell? ((⟨w.heap.size, 0, none⟩ : Addr).add j) = some u := by
  intro j u h
  match j, h with
  | 0, h => simp at h; subst h; simp [Addr.add]
  | 1, h => simp at h; subst h; simp [Addr.add]
def Pw (w0 : World) (B p bt : Nat) (w : World) (s g : Int) (A : Option Addr) (n c : Nat) (M : Nat → SlT) : Prop := Tx3 w bt (.int .i64 s) (.int .i64 g) (.slice A n c) ∧ w.ownsRow (w0.heap.size + 1) 60 2 (.slice A n c) n (srow M n) ∧ CurOk w B p ∧ But p w0 w ∧ Tx3 w w0.heap.size (.int .i64 0) (.int .i64 0) (.slice none 0 0) ∧ (∀ q, (Value.slice A n c).ownBlock = some q → q ≠ bt)
section
variable {w0 w w' : World} {B p bt : Nat} {s g : Int} {A : Option Addr} {n c : Nat} {M : Nat → SlT}
theorem Pw.but (h : Pw w0 B p bt w s g A n c M) (hc : CurOk w' B p) (hb : But p w w') (hp : p < w0.heap.size) (hbt : w0.heap.size < bt) : Pw w0 B p bt w' s g A n c M :=
  ⟨h.1.but hb (by omega), own_butK h.2.1 hb (by omega), hc, h.2.2.2.1.trans hb, h.2.2.2.2.1.but hb (by omega), h.2.2.2.2.2⟩
theorem Pw.below (h : Pw w0 B p bt w s g A n c M) (hb : Below w.heap.size w w') : Pw w0 B p bt w' s g A n c M :=
  ⟨h.1.below hb, own_belK' h.2.1 hb, h.2.2.1.below hb, h.2.2.2.1.trans (But.of_below hb), h.2.2.2.2.1.below hb, h.2.2.2.2.2⟩
theorem Pw.drew (h : Pw w0 B p bt w s g A n c M) : Pw w0 B p bt w.drew s g A n c M := h
theorem Pw.set0 (h : Pw w0 B p bt w s g A n c M) (hp : p < w0.heap.size) (hB : B ≤ p) (hbt : w0.heap.size < bt) (s' : Int) : Pw w0 B p bt (w.setCell ⟨bt, 0, none⟩ (.int .i64 s')) s' g A n c M :=
  ⟨h.1.set0 _, own_neK h.2.1 (But.one13 _ _ _ _) h.2.2.2.2.2, h.2.2.1.setOther (by omega) (by omega) _ _, h.2.2.2.1.new13 (But.one13 _ _ _ _) (by omega), h.2.2.2.2.1.but (But.one13 _ _ _ _) (by omega), h.2.2.2.2.2⟩
theorem Pw.set1 (h : Pw w0 B p bt w s g A n c M) (hp : p < w0.heap.size) (hB : B ≤ p) (hbt : w0.heap.size < bt) (g' : Int) : Pw w0 B p bt (w.setCell ⟨bt, 1, none⟩ (.int .i64 g')) s g' A n c M :=
  ⟨h.1.set1 _, own_neK h.2.1 (But.one13 _ _ _ _) h.2.2.2.2.2, h.2.2.1.setOther (by omega) (by omega) _ _, h.2.2.2.1.new13 (But.one13 _ _ _ _) (by omega), h.2.2.2.2.1.but (But.one13 _ _ _ _) (by omega), h.2.2.2.2.2⟩
theorem Pw.empty (h : Pw w0 B p bt w s g A n c M) (hp : p < w0.heap.size) (hB : B ≤ p) (hbt : w0.heap.size < bt) (M' : Nat → SlT) : Pw w0 B p bt (w.setCell ⟨bt, 2, none⟩ (.slice none 0 0)) s g none 0 0 M' :=
  ⟨h.1.set2 _, World.ownsRow_nil _ _ _ _, h.2.2.1.setOther (by omega) (by omega) _ _, h.2.2.2.1.new13 (But.one13 _ _ _ _) (by omega), h.2.2.2.2.1.but (But.one13 _ _ _ _) (by omega), by intro q hq; simp [Value.ownBlock] at hq⟩
/- Its list grew: the row that it holds now. -/
theorem Pw.grow {A' : Option Addr} {n' c' : Nat} {M' : Nat → SlT} (h : Pw w0 B p bt w s g A n c M) (hp : p < w0.heap.size) (hB : B ≤ p) (hbt : w0.heap.size < bt) (hg : w.grownBy w' (Value.slice A n c).ownBlock) (ho : w'.ownsRow (w0.heap.size + 1) 60 2 (.slice A' n' c') n' (srow M' n')) (hf : ∀ q, (Value.slice A' n' c').ownBlock = some q → (Value.slice A n c).ownBlock = some q ∨ w.heap.size ≤ q) : Pw w0 B p bt (w'.setCell ⟨bt, 2, none⟩ (.slice A' n' c')) s g A' n' c' M' := by
  have hbw := h.1.1
  have hne : some bt ≠ (Value.slice A n c).ownBlock := fun e => h.2.2.2.2.2 bt e.symm rfl
  have hlt : ∀ q, q < w0.heap.size + 1 → some q ≠ (Value.slice A n c).ownBlock := fun q hq e => by have := (World.ownsRow.lt h.2.1 q e.symm).1; omega
  have hN : ∀ q, (Value.slice A' n' c').ownBlock = some q → q ≠ bt := fun q hq e => by
    rcases hf q hq with r | r
    · exact hne (by rw [r, e])
    · omega
  have hG : Below (w0.heap.size + 1) w w' := grown_bel hg (by omega) hlt
  have hc : CurOk w' B p := h.2.2.1.below13 hG (by omega)
  exact ⟨(h.1.kept hg hne).set2 _, own_neK ho (But.one13 _ _ _ _) hN, hc.setOther (by omega) (by omega) _ _, (h.2.2.2.1.grow13 hg (fun q hq => hlt q (by omega))).new13 (But.one13 _ _ _ _) (by omega), (h.2.2.2.2.1.kept hg (hlt _ (by omega))).but (But.one13 _ _ _ _) (by omega), hN⟩
theorem Pw.result (h : Pw w0 B p bt w s g A n c M) (hp : p < w0.heap.size) (hB : B ≤ p) {u0 u1 u2 : Value} : (((w.setCell ⟨w0.heap.size, 0, none⟩ u0).setCell ⟨w0.heap.size, 1, none⟩ u1).setCell ⟨w0.heap.size, 2, none⟩ u2).ownsRow w0.heap.size 60 2 (.slice A n c) n (srow M n) ∧ CurOk (((w.setCell ⟨w0.heap.size, 0, none⟩ u0).setCell ⟨w0.heap.size, 1, none⟩ u1).setCell ⟨w0.heap.size, 2, none⟩ u2) B p ∧ But p w0 (((w.setCell ⟨w0.heap.size, 0, none⟩ u0).setCell ⟨w0.heap.size, 1, none⟩ u1).setCell ⟨w0.heap.size, 2, none⟩ u2) := by
  have hb : But w0.heap.size w (((w.setCell ⟨w0.heap.size, 0, none⟩ u0).setCell ⟨w0.heap.size, 1, none⟩ u1).setCell ⟨w0.heap.size, 2, none⟩ u2) := (((But.refl _ w).setCell 0 u0).setCell 1 u1).setCell 2 u2
  exact ⟨own_baseI (own_butK h.2.1 hb (by omega)) (by omega), ((h.2.2.1.setOther (by omega) (by omega) _ _).setOther (by omega) (by omega) _ _).setOther (by omega) (by omega) _ _, h.2.2.2.1.new13 hb (Nat.le_refl _)⟩
end
def PlanDrawn (m : Nat) (w : World) (B p : Nat) (e : Ending) (w' : World) : Prop := ∃ (s g : Int) (A : Option Addr) (n c : Nat) (M : Nat → SlT), e = .returned (.agg #[.int .i64 s, .int .i64 g, .slice A n c]) ∧ n ≤ m ∧ (m = 12 → 1 ≤ n) ∧ w'.ownsRow w.heap.size 60 2 (.slice A n c) n (srow M n) ∧ CurOk w' B p ∧ But p w w'
set_option maxRecDepth 100000 in
set_option maxHeartbeats 16000000 in
theorem l13DrawPlan_any (B p : Nat) (w : World) (hcur : CurOk w B p) :
    Calls Try.prog 79 #[.pointer (some ⟨p, 0, none⟩)] w fun e w' => PlanDrawn 12 w B p e w' := by
  obtain ⟨i0, hi, hz0, hz1, hz2⟩ := info13_parts
  have hpl := hcur.lt
  have hp : p < w.heap.size := hpl.1
  have hB : B ≤ p := hpl.2
  have hpw : w.heap.size ≠ p := by omega
  have A1 := Below.nw w (.cells #[.int .i64 0, .int .i64 0, .slice none 0 0] 29)
  have R := Tx3.new w (.int .i64 0) (.int .i64 0) (.slice none 0 0) 29
  have cc0 := hcur.below A1
  have b0 : But p w _ := But.of_below A1
  clear A1 hcur hpl
  go_enter Try.func79, Try.ntmps79
  go_upto_region 1 with fail
  generalize w.alloc (.cells #[.int .i64 0, .int .i64 0, .slice none 0 0] 29) = v at *
  go_wp2_with fail
  refine (l1Below_any B p 40 _ cc0).mono ?_
  rintro e w1 ⟨s, rfl, sl, sh, sp, sz, cc, bb⟩
  replace R := R.but bb hpw
  replace b0 := b0.trans bb
  clear bb cc0 sh sp sz
  go_wp2_with fail
  refine (l1Below_any B p 6 _ cc).mono ?_
  rintro e w2 ⟨g, rfl, gl, gh, gp, gz, cc2, bb⟩
  replace R := R.but bb hpw
  replace b0 := b0.trans bb
  clear bb cc gh gp gz
  have A2 := Below.nw w2 (.cells #[.int .i64 s, .int .i64 g, .slice none 0 0] 29)
  have T : Pw w B p w2.heap.size (w2.alloc (.cells #[.int .i64 s, .int .i64 g, .slice none 0 0] 29)) s g none 0 0 (fun _ => zSl) := ⟨Tx3.new w2 _ _ _ _, World.ownsRow_nil _ _ _ _, cc2.below A2, b0.trans (But.of_below A2), R.below A2, by intro q hq; simp [Value.ownBlock] at hq⟩
  have hbt : w.heap.size < w2.heap.size := R.1
  clear A2 b0 R cc2
  go_upto_region 2 with fail
  generalize w2.heap.size = bt at *
  generalize w2.alloc (.cells #[.int .i64 s, .int .i64 g, .slice none 0 0] 29) = v at *
  go_wp2_with fail
  refine (l1Below_any B p 5 _ T.2.2.1).mono ?_; rintro e v1 ⟨m, rfl, ml, mh, mp, mz, cc, bb⟩; replace T := T.but cc bb hp hbt; clear cc bb mz
  have hm := mp (by omega)
  clear mp mh
  go_wp2_with fail
  refine (l1Once_any B p 20 _ T.2.2.1).mono ?_; rintro e v2 ⟨oo, rfl, cc, bb⟩; replace T := T.but cc bb hp hbt; clear cc bb
  cases oo
  · go_upto_region 5 with fail
    have hN0 : 0 ≤ 1 + m := by omega
    have hN1 : 1 ≤ 1 + m ∧ 1 + m ≤ 12 := by omega
    clear hm ml
    generalize 1 + m = nn at *
    obtain ⟨N, rfl⟩ := Int.eq_ofNat_of_zero_le hN0
    have hN2 : 1 ≤ N ∧ N ≤ 12 := by omega
    clear hN0 hN1
    go_wp2_with fail
    go_loopw [5] (fun i wr => ∃ (A : Option Addr) (n c : Nat) (M : Nat → SlT), i = .int .i64 (n : Int) ∧ n ≤ N ∧ Pw w B p bt wr s g A n c M) (fun i _ => N - (intOf i).toNat)
    case atStart => exact ⟨none, 0, 0, fun _ => zSl, rfl, Nat.zero_le _, T⟩
    case round =>
      clear T
      obtain ⟨A, n, c, M, rfl, hn, T⟩ := hrel
      by_cases hlt : n < N
      · have hli : (n : Int) < (N : Int) := by omega
        obtain ⟨n0, n1, n2, n3, n4, n5, n6⟩ := id T.1
        go_upto_region 8 with fail
        refine wp_region_held_drew (S := (fun _ => True)) (by kernel_rfl) ?_ (fun hHeld => ?_)
        · trivial
        clear n0 n1 n2 n3 n4 n5 n6
        replace T := T.drew
        generalize wr.drew = vx at *
        (obtain ⟨n0, n1, n2, n3, n4, n5, n6⟩ := id T.1)
        refine wpAnyH_take (i := 0) (v := ?_) (by rw [List.getElem?_toArray]; rfl) (by kernel_rfl) (by kernel_rfl) (by kernel_rfl) (by intro _ _ _ h; exact h) (Or.inl ⟨by rfl, ?_⟩) (by assumption) ?_
        rotate_left
        · (intro w hSw; (try dsimp only at hSw); go_simp; all_goals with_reducible rfl)
        (try simp only [Act.put, List.setIfInBounds_toArray, List.set_cons_zero, List.set_cons_succ])
        refine wpAnyH_take (i := 2) (v := ?_) (by rw [List.getElem?_toArray]; rfl) (by kernel_rfl) (by kernel_rfl) (by kernel_rfl) (by intro _ _ _ h; exact h) (Or.inl ⟨by rfl, ?_⟩) (by assumption) ?_
        rotate_left
        · (intro w hSw; (try dsimp only at hSw); go_simp; all_goals with_reducible rfl)
        (try simp only [Act.put, List.setIfInBounds_toArray, List.set_cons_zero, List.set_cons_succ])
        refine wpAnyH_take (i := 4) (v := ?_) (by rw [List.getElem?_toArray]; rfl) (by kernel_rfl) (by kernel_rfl) (by kernel_rfl) (by intro _ _ _ h; exact h) (Or.inl ⟨by rfl, ?_⟩) (by assumption) ?_
        rotate_left
        · (intro w hSw; (try dsimp only at hSw); go_simp; all_goals with_reducible rfl)
        (try simp only [Act.put, List.setIfInBounds_toArray, List.set_cons_zero, List.set_cons_succ])
        refine wpAnyH_ready (rs := [1, 3]) (by kernel_rfl) (by simp) ?_
        refine (AllReadyH.cons (by rw [List.getElem?_toArray]; rfl) (fun K hK => ?_) (AllReadyH.cons (by rw [List.getElem?_toArray]; rfl) (fun K hK => ?_) AllReadyH.nil))
        · go_simp
          refine hK.out _ _ ?_ (fun hHeld => ?_)
          · trivial
          clear hK K
          (try simp only [Act.put, List.setIfInBounds_toArray, List.set_cons_zero, List.set_cons_succ])
          refine wpAnyH_ready (rs := [3]) (by kernel_rfl) (by simp) ?_
          refine (AllReadyH.cons (by rw [List.getElem?_toArray]; rfl) (fun K hK => ?_) AllReadyH.nil)
          go_simp
          refine (l1Below_any B p 4 _ T.2.2.1).mono ?_; rintro e vx1 ⟨x1, rfl, x1l, x1h, x1p, _, cc, bb⟩; (clear n0 n1 n2 n3 n4 n5 n6); (have x1q := x1p (by omega)); (replace T := T.but cc bb hp hbt); (clear cc bb x1p); (obtain ⟨n0, n1, n2, n3, n4, n5, n6⟩ := id T.1)
          (try go_wp2_with fail)
          refine hK.out _ _ ?_ (fun hHeld => ?_)
          · trivial
          clear hK K
          (try simp only [Act.put, List.setIfInBounds_toArray, List.set_cons_zero, List.set_cons_succ])
          refine wpAnyH_ready (rs := [5]) (by kernel_rfl) (by simp) ?_
          refine (AllReadyH.cons (by rw [List.getElem?_toArray]; rfl) (fun K hK => ?_) AllReadyH.nil)
          go_simp
          refine (l1Below_any B p 60 _ T.2.2.1).mono ?_; rintro e vx2 ⟨x2, rfl, x2l, x2h, x2p, _, cc, bb⟩; (clear n0 n1 n2 n3 n4 n5 n6); (have x2q := x2p (by omega)); (replace T := T.but cc bb hp hbt); (clear cc bb x2p); (obtain ⟨n0, n1, n2, n3, n4, n5, n6⟩ := id T.1)
          (try go_wp2_with fail)
          refine hK.out _ _ ?_ (fun hHeld => ?_)
          · trivial
          clear hK K
          (try simp only [Act.put, List.setIfInBounds_toArray, List.set_cons_zero, List.set_cons_succ])
          refine wpAnyH_take (i := 6) (v := ?_) (by rw [List.getElem?_toArray]; rfl) (by kernel_rfl) (by kernel_rfl) (by kernel_rfl) (by intro _ _ _ h; exact h) (Or.inl ⟨by rfl, ?_⟩) (by assumption) ?_
          rotate_left
          · (intro w hSw; (try dsimp only at hSw); go_simp; all_goals with_reducible rfl)
          (try simp only [Act.put, List.setIfInBounds_toArray, List.set_cons_zero, List.set_cons_succ])
          refine wpAnyH_take (i := 7) (v := ?_) (by rw [List.getElem?_toArray]; rfl) (by kernel_rfl) (by kernel_rfl) (by kernel_rfl) (by intro _ _ _ h; exact h) (Or.inl ⟨by rfl, ?_⟩) (by assumption) ?_
          rotate_left
          · (intro w hSw; (try dsimp only at hSw); go_simp; all_goals with_reducible rfl)
          (try simp only [Act.put, List.setIfInBounds_toArray, List.set_cons_zero, List.set_cons_succ])
          refine wpAnyH_ready (rs := [8]) (by kernel_rfl) (by simp) ?_
          refine (AllReadyH.cons (by rw [List.getElem?_toArray]; rfl) (fun K hK => ?_) AllReadyH.nil)
          go_simp
          (clear n0 n1 n2 n3 n4 n5 n6); (generalize IntKind.i64.wrap (1 + x2) = y2 at *); (have A6 := Below.nw vx2 (.cells #[.int .i64 x1, .int .i64 y2] 60)); (have HN : Hid (∀ j u, [Value.int .i64 x1, .int .i64 y2][j]? = some u → (vx2.alloc (.cells #[.int .i64 x1, .int .i64 y2] 60)).cell? ((⟨vx2.heap.size, 0, none⟩ : Addr).add j) = some u) := slot_at vx2 x1 y2); (replace T := T.below A6); (clear A6); (generalize vx2.heap.size = jb at *); (generalize vx2.alloc (.cells #[.int .i64 x1, .int .i64 y2] 60) = vx3 at *); (obtain ⟨n0, n1, n2, n3, n4, n5, n6⟩ := id T.1)
          refine hK.out _ _ ?_ (fun hHeld => ?_)
          · trivial
          clear hK K
          (try simp only [Act.put, List.setIfInBounds_toArray, List.set_cons_zero, List.set_cons_succ])
          refine wpAnyH_ready (rs := [9]) (by kernel_rfl) (by simp) ?_
          refine (AllReadyH.cons (by rw [List.getElem?_toArray]; rfl) (fun K hK => ?_) AllReadyH.nil)
          rw [if_pos (by rfl)]; (clear n0 n1 n2 n3 n4 n5 n6); (have hsz : w.heap.size + 1 ≤ vx3.heap.size := by have := T.1.1; omega); refine wp_append13 _ _ 27 rfl (w.heap.size + 1) 60 i0 (.agg #[.int .i64 0, .int .i64 0]) 2 16 Try.underlying27 hi hz0 hz1 hz2 rfl (by decide) _ _ _ rfl T.2.1 ⟨jb, 0, none⟩ 1 1 [.int .i64 x1, .int .i64 y2] rfl rfl HN.out (slot_one _ _) (by unfold maxLen; omega) (by omega) hsz ?_; intro v' wn hown' hgrow hfr; (rw [← srow_ins M n (x1, y2)] at hown'); (obtain ⟨a', c', rfl, _, _, _⟩ := ownF_src hown'); (have T3 := T.grow hp hB hbt hgrow hown' hfr); (have KQ := T.1.kept hgrow (fun e => T.2.2.2.2.2 bt e.symm rfl)); (clear hown' hgrow hfr HN T hsz); (obtain ⟨n0, n1, n2, n3, n4, n5, n6⟩ := id KQ)
          refine hK.out _ _ ?_ (fun hHeld => ?_)
          · trivial
          clear hK K
          (try simp only [Act.put, List.setIfInBounds_toArray, List.set_cons_zero, List.set_cons_succ])
          refine wpAnyH_take (i := 10) (v := ?_) (by rw [List.getElem?_toArray]; rfl) (by kernel_rfl) (by kernel_rfl) (by kernel_rfl) (by intro _ _ _ h; exact h) (Or.inl ⟨by rfl, ?_⟩) (by assumption) ?_
          rotate_left
          · (intro w hSw; (try dsimp only at hSw); go_simp; all_goals with_reducible rfl)
          (try simp only [Act.put, List.setIfInBounds_toArray, List.set_cons_zero, List.set_cons_succ])
          refine wpAnyH_ready (rs := [11]) (by kernel_rfl) (by simp) ?_
          refine (AllReadyH.cons (by rw [List.getElem?_toArray]; rfl) (fun K hK => ?_) AllReadyH.nil)
          go_simp
          (clear n0 n1 n2 n3 n4 n5 n6 KQ); (generalize wn.setCell ⟨bt, 2, none⟩ (.slice a' (n + 1) c') = v9 at *)
          refine hK.out _ _ ?_ (fun hHeld => ?_)
          · trivial
          clear hK K
          (try simp only [Act.put, List.setIfInBounds_toArray, List.set_cons_zero, List.set_cons_succ])
          refine wpAnyH_done (by kernel_rfl) ?_ _
          go_wp2_with fail
          go_roundw
          case rel => exact ⟨a', n + 1, c', _, by go_num, by omega, T3⟩
          case measure => simp [intOf]; omega
        · go_simp
          refine (l1Below_any B p 4 _ T.2.2.1).mono ?_; rintro e vx1 ⟨x1, rfl, x1l, x1h, x1p, _, cc, bb⟩; (clear n0 n1 n2 n3 n4 n5 n6); (have x1q := x1p (by omega)); (replace T := T.but cc bb hp hbt); (clear cc bb x1p); (obtain ⟨n0, n1, n2, n3, n4, n5, n6⟩ := id T.1)
          (try go_wp2_with fail)
          refine hK.out _ _ ?_ (fun hHeld => ?_)
          · trivial
          clear hK K
          (try simp only [Act.put, List.setIfInBounds_toArray, List.set_cons_zero, List.set_cons_succ])
          refine wpAnyH_ready (rs := [1, 5]) (by kernel_rfl) (by simp) ?_
          refine (AllReadyH.cons (by rw [List.getElem?_toArray]; rfl) (fun K hK => ?_) (AllReadyH.cons (by rw [List.getElem?_toArray]; rfl) (fun K hK => ?_) AllReadyH.nil))
          · go_simp
            refine hK.out _ _ ?_ (fun hHeld => ?_)
            · trivial
            clear hK K
            (try simp only [Act.put, List.setIfInBounds_toArray, List.set_cons_zero, List.set_cons_succ])
            refine wpAnyH_ready (rs := [5]) (by kernel_rfl) (by simp) ?_
            refine (AllReadyH.cons (by rw [List.getElem?_toArray]; rfl) (fun K hK => ?_) AllReadyH.nil)
            go_simp
            refine (l1Below_any B p 60 _ T.2.2.1).mono ?_; rintro e vx2 ⟨x2, rfl, x2l, x2h, x2p, _, cc, bb⟩; (clear n0 n1 n2 n3 n4 n5 n6); (have x2q := x2p (by omega)); (replace T := T.but cc bb hp hbt); (clear cc bb x2p); (obtain ⟨n0, n1, n2, n3, n4, n5, n6⟩ := id T.1)
            (try go_wp2_with fail)
            refine hK.out _ _ ?_ (fun hHeld => ?_)
            · trivial
            clear hK K
            (try simp only [Act.put, List.setIfInBounds_toArray, List.set_cons_zero, List.set_cons_succ])
            refine wpAnyH_take (i := 6) (v := ?_) (by rw [List.getElem?_toArray]; rfl) (by kernel_rfl) (by kernel_rfl) (by kernel_rfl) (by intro _ _ _ h; exact h) (Or.inl ⟨by rfl, ?_⟩) (by assumption) ?_
            rotate_left
            · (intro w hSw; (try dsimp only at hSw); go_simp; all_goals with_reducible rfl)
            (try simp only [Act.put, List.setIfInBounds_toArray, List.set_cons_zero, List.set_cons_succ])
            refine wpAnyH_take (i := 7) (v := ?_) (by rw [List.getElem?_toArray]; rfl) (by kernel_rfl) (by kernel_rfl) (by kernel_rfl) (by intro _ _ _ h; exact h) (Or.inl ⟨by rfl, ?_⟩) (by assumption) ?_
            rotate_left
            · (intro w hSw; (try dsimp only at hSw); go_simp; all_goals with_reducible rfl)
            (try simp only [Act.put, List.setIfInBounds_toArray, List.set_cons_zero, List.set_cons_succ])
            refine wpAnyH_ready (rs := [8]) (by kernel_rfl) (by simp) ?_
            refine (AllReadyH.cons (by rw [List.getElem?_toArray]; rfl) (fun K hK => ?_) AllReadyH.nil)
            go_simp
            (clear n0 n1 n2 n3 n4 n5 n6); (generalize IntKind.i64.wrap (1 + x2) = y2 at *); (have A6 := Below.nw vx2 (.cells #[.int .i64 x1, .int .i64 y2] 60)); (have HN : Hid (∀ j u, [Value.int .i64 x1, .int .i64 y2][j]? = some u → (vx2.alloc (.cells #[.int .i64 x1, .int .i64 y2] 60)).cell? ((⟨vx2.heap.size, 0, none⟩ : Addr).add j) = some u) := slot_at vx2 x1 y2); (replace T := T.below A6); (clear A6); (generalize vx2.heap.size = jb at *); (generalize vx2.alloc (.cells #[.int .i64 x1, .int .i64 y2] 60) = vx3 at *); (obtain ⟨n0, n1, n2, n3, n4, n5, n6⟩ := id T.1)
            refine hK.out _ _ ?_ (fun hHeld => ?_)
            · trivial
            clear hK K
            (try simp only [Act.put, List.setIfInBounds_toArray, List.set_cons_zero, List.set_cons_succ])
            refine wpAnyH_ready (rs := [9]) (by kernel_rfl) (by simp) ?_
            refine (AllReadyH.cons (by rw [List.getElem?_toArray]; rfl) (fun K hK => ?_) AllReadyH.nil)
            rw [if_pos (by rfl)]; (clear n0 n1 n2 n3 n4 n5 n6); (have hsz : w.heap.size + 1 ≤ vx3.heap.size := by have := T.1.1; omega); refine wp_append13 _ _ 27 rfl (w.heap.size + 1) 60 i0 (.agg #[.int .i64 0, .int .i64 0]) 2 16 Try.underlying27 hi hz0 hz1 hz2 rfl (by decide) _ _ _ rfl T.2.1 ⟨jb, 0, none⟩ 1 1 [.int .i64 x1, .int .i64 y2] rfl rfl HN.out (slot_one _ _) (by unfold maxLen; omega) (by omega) hsz ?_; intro v' wn hown' hgrow hfr; (rw [← srow_ins M n (x1, y2)] at hown'); (obtain ⟨a', c', rfl, _, _, _⟩ := ownF_src hown'); (have T3 := T.grow hp hB hbt hgrow hown' hfr); (have KQ := T.1.kept hgrow (fun e => T.2.2.2.2.2 bt e.symm rfl)); (clear hown' hgrow hfr HN T hsz); (obtain ⟨n0, n1, n2, n3, n4, n5, n6⟩ := id KQ)
            refine hK.out _ _ ?_ (fun hHeld => ?_)
            · trivial
            clear hK K
            (try simp only [Act.put, List.setIfInBounds_toArray, List.set_cons_zero, List.set_cons_succ])
            refine wpAnyH_take (i := 10) (v := ?_) (by rw [List.getElem?_toArray]; rfl) (by kernel_rfl) (by kernel_rfl) (by kernel_rfl) (by intro _ _ _ h; exact h) (Or.inl ⟨by rfl, ?_⟩) (by assumption) ?_
            rotate_left
            · (intro w hSw; (try dsimp only at hSw); go_simp; all_goals with_reducible rfl)
            (try simp only [Act.put, List.setIfInBounds_toArray, List.set_cons_zero, List.set_cons_succ])
            refine wpAnyH_ready (rs := [11]) (by kernel_rfl) (by simp) ?_
            refine (AllReadyH.cons (by rw [List.getElem?_toArray]; rfl) (fun K hK => ?_) AllReadyH.nil)
            go_simp
            (clear n0 n1 n2 n3 n4 n5 n6 KQ); (generalize wn.setCell ⟨bt, 2, none⟩ (.slice a' (n + 1) c') = v9 at *)
            refine hK.out _ _ ?_ (fun hHeld => ?_)
            · trivial
            clear hK K
            (try simp only [Act.put, List.setIfInBounds_toArray, List.set_cons_zero, List.set_cons_succ])
            refine wpAnyH_done (by kernel_rfl) ?_ _
            go_wp2_with fail
            go_roundw
            case rel => exact ⟨a', n + 1, c', _, by go_num, by omega, T3⟩
            case measure => simp [intOf]; omega
          · go_simp
            refine (l1Below_any B p 60 _ T.2.2.1).mono ?_; rintro e vx2 ⟨x2, rfl, x2l, x2h, x2p, _, cc, bb⟩; (clear n0 n1 n2 n3 n4 n5 n6); (have x2q := x2p (by omega)); (replace T := T.but cc bb hp hbt); (clear cc bb x2p); (obtain ⟨n0, n1, n2, n3, n4, n5, n6⟩ := id T.1)
            (try go_wp2_with fail)
            refine hK.out _ _ ?_ (fun hHeld => ?_)
            · trivial
            clear hK K
            (try simp only [Act.put, List.setIfInBounds_toArray, List.set_cons_zero, List.set_cons_succ])
            refine wpAnyH_take (i := 6) (v := ?_) (by rw [List.getElem?_toArray]; rfl) (by kernel_rfl) (by kernel_rfl) (by kernel_rfl) (by intro _ _ _ h; exact h) (Or.inl ⟨by rfl, ?_⟩) (by assumption) ?_
            rotate_left
            · (intro w hSw; (try dsimp only at hSw); go_simp; all_goals with_reducible rfl)
            (try simp only [Act.put, List.setIfInBounds_toArray, List.set_cons_zero, List.set_cons_succ])
            refine wpAnyH_take (i := 7) (v := ?_) (by rw [List.getElem?_toArray]; rfl) (by kernel_rfl) (by kernel_rfl) (by kernel_rfl) (by intro _ _ _ h; exact h) (Or.inl ⟨by rfl, ?_⟩) (by assumption) ?_
            rotate_left
            · (intro w hSw; (try dsimp only at hSw); go_simp; all_goals with_reducible rfl)
            (try simp only [Act.put, List.setIfInBounds_toArray, List.set_cons_zero, List.set_cons_succ])
            refine wpAnyH_ready (rs := [1, 8]) (by kernel_rfl) (by simp) ?_
            refine (AllReadyH.cons (by rw [List.getElem?_toArray]; rfl) (fun K hK => ?_) (AllReadyH.cons (by rw [List.getElem?_toArray]; rfl) (fun K hK => ?_) AllReadyH.nil))
            · go_simp
              refine hK.out _ _ ?_ (fun hHeld => ?_)
              · trivial
              clear hK K
              (try simp only [Act.put, List.setIfInBounds_toArray, List.set_cons_zero, List.set_cons_succ])
              refine wpAnyH_ready (rs := [8]) (by kernel_rfl) (by simp) ?_
              refine (AllReadyH.cons (by rw [List.getElem?_toArray]; rfl) (fun K hK => ?_) AllReadyH.nil)
              go_simp
              (clear n0 n1 n2 n3 n4 n5 n6); (generalize IntKind.i64.wrap (1 + x2) = y2 at *); (have A6 := Below.nw vx2 (.cells #[.int .i64 x1, .int .i64 y2] 60)); (have HN : Hid (∀ j u, [Value.int .i64 x1, .int .i64 y2][j]? = some u → (vx2.alloc (.cells #[.int .i64 x1, .int .i64 y2] 60)).cell? ((⟨vx2.heap.size, 0, none⟩ : Addr).add j) = some u) := slot_at vx2 x1 y2); (replace T := T.below A6); (clear A6); (generalize vx2.heap.size = jb at *); (generalize vx2.alloc (.cells #[.int .i64 x1, .int .i64 y2] 60) = vx3 at *); (obtain ⟨n0, n1, n2, n3, n4, n5, n6⟩ := id T.1)
              refine hK.out _ _ ?_ (fun hHeld => ?_)
              · trivial
              clear hK K
              (try simp only [Act.put, List.setIfInBounds_toArray, List.set_cons_zero, List.set_cons_succ])
              refine wpAnyH_ready (rs := [9]) (by kernel_rfl) (by simp) ?_
              refine (AllReadyH.cons (by rw [List.getElem?_toArray]; rfl) (fun K hK => ?_) AllReadyH.nil)
              rw [if_pos (by rfl)]; (clear n0 n1 n2 n3 n4 n5 n6); (have hsz : w.heap.size + 1 ≤ vx3.heap.size := by have := T.1.1; omega); refine wp_append13 _ _ 27 rfl (w.heap.size + 1) 60 i0 (.agg #[.int .i64 0, .int .i64 0]) 2 16 Try.underlying27 hi hz0 hz1 hz2 rfl (by decide) _ _ _ rfl T.2.1 ⟨jb, 0, none⟩ 1 1 [.int .i64 x1, .int .i64 y2] rfl rfl HN.out (slot_one _ _) (by unfold maxLen; omega) (by omega) hsz ?_; intro v' wn hown' hgrow hfr; (rw [← srow_ins M n (x1, y2)] at hown'); (obtain ⟨a', c', rfl, _, _, _⟩ := ownF_src hown'); (have T3 := T.grow hp hB hbt hgrow hown' hfr); (have KQ := T.1.kept hgrow (fun e => T.2.2.2.2.2 bt e.symm rfl)); (clear hown' hgrow hfr HN T hsz); (obtain ⟨n0, n1, n2, n3, n4, n5, n6⟩ := id KQ)
              refine hK.out _ _ ?_ (fun hHeld => ?_)
              · trivial
              clear hK K
              (try simp only [Act.put, List.setIfInBounds_toArray, List.set_cons_zero, List.set_cons_succ])
              refine wpAnyH_take (i := 10) (v := ?_) (by rw [List.getElem?_toArray]; rfl) (by kernel_rfl) (by kernel_rfl) (by kernel_rfl) (by intro _ _ _ h; exact h) (Or.inl ⟨by rfl, ?_⟩) (by assumption) ?_
              rotate_left
              · (intro w hSw; (try dsimp only at hSw); go_simp; all_goals with_reducible rfl)
              (try simp only [Act.put, List.setIfInBounds_toArray, List.set_cons_zero, List.set_cons_succ])
              refine wpAnyH_ready (rs := [11]) (by kernel_rfl) (by simp) ?_
              refine (AllReadyH.cons (by rw [List.getElem?_toArray]; rfl) (fun K hK => ?_) AllReadyH.nil)
              go_simp
              (clear n0 n1 n2 n3 n4 n5 n6 KQ); (generalize wn.setCell ⟨bt, 2, none⟩ (.slice a' (n + 1) c') = v9 at *)
              refine hK.out _ _ ?_ (fun hHeld => ?_)
              · trivial
              clear hK K
              (try simp only [Act.put, List.setIfInBounds_toArray, List.set_cons_zero, List.set_cons_succ])
              refine wpAnyH_done (by kernel_rfl) ?_ _
              go_wp2_with fail
              go_roundw
              case rel => exact ⟨a', n + 1, c', _, by go_num, by omega, T3⟩
              case measure => simp [intOf]; omega
            · go_simp
              (clear n0 n1 n2 n3 n4 n5 n6); (generalize IntKind.i64.wrap (1 + x2) = y2 at *); (have A6 := Below.nw vx2 (.cells #[.int .i64 x1, .int .i64 y2] 60)); (have HN : Hid (∀ j u, [Value.int .i64 x1, .int .i64 y2][j]? = some u → (vx2.alloc (.cells #[.int .i64 x1, .int .i64 y2] 60)).cell? ((⟨vx2.heap.size, 0, none⟩ : Addr).add j) = some u) := slot_at vx2 x1 y2); (replace T := T.below A6); (clear A6); (generalize vx2.heap.size = jb at *); (generalize vx2.alloc (.cells #[.int .i64 x1, .int .i64 y2] 60) = vx3 at *); (obtain ⟨n0, n1, n2, n3, n4, n5, n6⟩ := id T.1)
              refine hK.out _ _ ?_ (fun hHeld => ?_)
              · trivial
              clear hK K
              (try simp only [Act.put, List.setIfInBounds_toArray, List.set_cons_zero, List.set_cons_succ])
              refine wpAnyH_ready (rs := [1]) (by kernel_rfl) (by simp) ?_
              refine (AllReadyH.cons (by rw [List.getElem?_toArray]; rfl) (fun K hK => ?_) AllReadyH.nil)
              go_simp
              refine hK.out _ _ ?_ (fun hHeld => ?_)
              · trivial
              clear hK K
              (try simp only [Act.put, List.setIfInBounds_toArray, List.set_cons_zero, List.set_cons_succ])
              refine wpAnyH_ready (rs := [9]) (by kernel_rfl) (by simp) ?_
              refine (AllReadyH.cons (by rw [List.getElem?_toArray]; rfl) (fun K hK => ?_) AllReadyH.nil)
              rw [if_pos (by rfl)]; (clear n0 n1 n2 n3 n4 n5 n6); (have hsz : w.heap.size + 1 ≤ vx3.heap.size := by have := T.1.1; omega); refine wp_append13 _ _ 27 rfl (w.heap.size + 1) 60 i0 (.agg #[.int .i64 0, .int .i64 0]) 2 16 Try.underlying27 hi hz0 hz1 hz2 rfl (by decide) _ _ _ rfl T.2.1 ⟨jb, 0, none⟩ 1 1 [.int .i64 x1, .int .i64 y2] rfl rfl HN.out (slot_one _ _) (by unfold maxLen; omega) (by omega) hsz ?_; intro v' wn hown' hgrow hfr; (rw [← srow_ins M n (x1, y2)] at hown'); (obtain ⟨a', c', rfl, _, _, _⟩ := ownF_src hown'); (have T3 := T.grow hp hB hbt hgrow hown' hfr); (have KQ := T.1.kept hgrow (fun e => T.2.2.2.2.2 bt e.symm rfl)); (clear hown' hgrow hfr HN T hsz); (obtain ⟨n0, n1, n2, n3, n4, n5, n6⟩ := id KQ)
              refine hK.out _ _ ?_ (fun hHeld => ?_)
              · trivial
              clear hK K
              (try simp only [Act.put, List.setIfInBounds_toArray, List.set_cons_zero, List.set_cons_succ])
              refine wpAnyH_take (i := 10) (v := ?_) (by rw [List.getElem?_toArray]; rfl) (by kernel_rfl) (by kernel_rfl) (by kernel_rfl) (by intro _ _ _ h; exact h) (Or.inl ⟨by rfl, ?_⟩) (by assumption) ?_
              rotate_left
              · (intro w hSw; (try dsimp only at hSw); go_simp; all_goals with_reducible rfl)
              (try simp only [Act.put, List.setIfInBounds_toArray, List.set_cons_zero, List.set_cons_succ])
              refine wpAnyH_ready (rs := [11]) (by kernel_rfl) (by simp) ?_
              refine (AllReadyH.cons (by rw [List.getElem?_toArray]; rfl) (fun K hK => ?_) AllReadyH.nil)
              go_simp
              (clear n0 n1 n2 n3 n4 n5 n6 KQ); (generalize wn.setCell ⟨bt, 2, none⟩ (.slice a' (n + 1) c') = v9 at *)
              refine hK.out _ _ ?_ (fun hHeld => ?_)
              · trivial
              clear hK K
              (try simp only [Act.put, List.setIfInBounds_toArray, List.set_cons_zero, List.set_cons_succ])
              refine wpAnyH_done (by kernel_rfl) ?_ _
              go_wp2_with fail
              go_roundw
              case rel => exact ⟨a', n + 1, c', _, by go_num, by omega, T3⟩
              case measure => simp [intOf]; omega
      · have hkn : n = N := by omega
        subst hkn
        have hli : ¬ (n : Int) < (n : Int) := by omega
        have RS := T.result hp hB (u0 := .int .i64 s) (u1 := .int .i64 g) (u2 := .slice A n c)
        have RR := ((T.2.2.2.2.1.set0 (.int .i64 s)).set1 (.int .i64 g)).set2 (.slice A n c)
        obtain ⟨n0, n1, n2, n3, n4, n5, n6⟩ := id T.1
        obtain ⟨r0, r1, r2, r3, r4, r5, r6⟩ := id T.2.2.2.2.1
        go_wp2_with fail
        clear n0 n1 n2 n3 n4 n5 n6
        clear r0 r1 r2 r3 r4 r5 r6
        generalize ((wr.setCell ⟨w.heap.size, 0, none⟩ (.int .i64 s)).setCell ⟨w.heap.size, 1, none⟩ (.int .i64 g)).setCell ⟨w.heap.size, 2, none⟩ (.slice A n c) = vz at *
        obtain ⟨r0, r1, r2, r3, r4, r5, r6⟩ := id RR
        exact bodyPost_ret (v := (.agg #[.int .i64 s, .int .i64 g, .slice A n c])) (by simp (maxDischargeDepth := 6) [results, Try.results79, go_sem, *]) rfl ⟨s, g, A, n, c, M, rfl, hN2.2, fun _ => hN2.1, RS⟩
  · go_upto_region 5 with fail
    have hN0 : (0 : Int) ≤ 12 := by omega
    have hN1 : 1 ≤ (12 : Int) ∧ (12 : Int) ≤ 12 := by omega
    clear hm ml
    have hN2 : 1 ≤ 12 ∧ 12 ≤ 12 := by omega
    clear hN0 hN1
    go_wp2_with fail
    go_loopw [5] (fun i wr => ∃ (A : Option Addr) (n c : Nat) (M : Nat → SlT), i = .int .i64 (n : Int) ∧ n ≤ 12 ∧ Pw w B p bt wr s g A n c M) (fun i _ => 12 - (intOf i).toNat)
    case atStart => exact ⟨none, 0, 0, fun _ => zSl, rfl, Nat.zero_le _, T⟩
    case round =>
      clear T
      obtain ⟨A, n, c, M, rfl, hn, T⟩ := hrel
      by_cases hlt : n < 12
      · have hli : (n : Int) < (12 : Int) := by omega
        obtain ⟨n0, n1, n2, n3, n4, n5, n6⟩ := id T.1
        go_upto_region 8 with fail
        refine wp_region_held_drew (S := (fun _ => True)) (by kernel_rfl) ?_ (fun hHeld => ?_)
        · trivial
        clear n0 n1 n2 n3 n4 n5 n6
        replace T := T.drew
        generalize wr.drew = vx at *
        (obtain ⟨n0, n1, n2, n3, n4, n5, n6⟩ := id T.1)
        refine wpAnyH_take (i := 0) (v := ?_) (by rw [List.getElem?_toArray]; rfl) (by kernel_rfl) (by kernel_rfl) (by kernel_rfl) (by intro _ _ _ h; exact h) (Or.inl ⟨by rfl, ?_⟩) (by assumption) ?_
        rotate_left
        · (intro w hSw; (try dsimp only at hSw); go_simp; all_goals with_reducible rfl)
        (try simp only [Act.put, List.setIfInBounds_toArray, List.set_cons_zero, List.set_cons_succ])
        refine wpAnyH_take (i := 2) (v := ?_) (by rw [List.getElem?_toArray]; rfl) (by kernel_rfl) (by kernel_rfl) (by kernel_rfl) (by intro _ _ _ h; exact h) (Or.inl ⟨by rfl, ?_⟩) (by assumption) ?_
        rotate_left
        · (intro w hSw; (try dsimp only at hSw); go_simp; all_goals with_reducible rfl)
        (try simp only [Act.put, List.setIfInBounds_toArray, List.set_cons_zero, List.set_cons_succ])
        refine wpAnyH_take (i := 4) (v := ?_) (by rw [List.getElem?_toArray]; rfl) (by kernel_rfl) (by kernel_rfl) (by kernel_rfl) (by intro _ _ _ h; exact h) (Or.inl ⟨by rfl, ?_⟩) (by assumption) ?_
        rotate_left
        · (intro w hSw; (try dsimp only at hSw); go_simp; all_goals with_reducible rfl)
        (try simp only [Act.put, List.setIfInBounds_toArray, List.set_cons_zero, List.set_cons_succ])
        refine wpAnyH_ready (rs := [1, 3]) (by kernel_rfl) (by simp) ?_
        refine (AllReadyH.cons (by rw [List.getElem?_toArray]; rfl) (fun K hK => ?_) (AllReadyH.cons (by rw [List.getElem?_toArray]; rfl) (fun K hK => ?_) AllReadyH.nil))
        · go_simp
          refine hK.out _ _ ?_ (fun hHeld => ?_)
          · trivial
          clear hK K
          (try simp only [Act.put, List.setIfInBounds_toArray, List.set_cons_zero, List.set_cons_succ])
          refine wpAnyH_ready (rs := [3]) (by kernel_rfl) (by simp) ?_
          refine (AllReadyH.cons (by rw [List.getElem?_toArray]; rfl) (fun K hK => ?_) AllReadyH.nil)
          go_simp
          refine (l1Below_any B p 4 _ T.2.2.1).mono ?_; rintro e vx1 ⟨x1, rfl, x1l, x1h, x1p, _, cc, bb⟩; (clear n0 n1 n2 n3 n4 n5 n6); (have x1q := x1p (by omega)); (replace T := T.but cc bb hp hbt); (clear cc bb x1p); (obtain ⟨n0, n1, n2, n3, n4, n5, n6⟩ := id T.1)
          (try go_wp2_with fail)
          refine hK.out _ _ ?_ (fun hHeld => ?_)
          · trivial
          clear hK K
          (try simp only [Act.put, List.setIfInBounds_toArray, List.set_cons_zero, List.set_cons_succ])
          refine wpAnyH_ready (rs := [5]) (by kernel_rfl) (by simp) ?_
          refine (AllReadyH.cons (by rw [List.getElem?_toArray]; rfl) (fun K hK => ?_) AllReadyH.nil)
          go_simp
          refine (l1Below_any B p 60 _ T.2.2.1).mono ?_; rintro e vx2 ⟨x2, rfl, x2l, x2h, x2p, _, cc, bb⟩; (clear n0 n1 n2 n3 n4 n5 n6); (have x2q := x2p (by omega)); (replace T := T.but cc bb hp hbt); (clear cc bb x2p); (obtain ⟨n0, n1, n2, n3, n4, n5, n6⟩ := id T.1)
          (try go_wp2_with fail)
          refine hK.out _ _ ?_ (fun hHeld => ?_)
          · trivial
          clear hK K
          (try simp only [Act.put, List.setIfInBounds_toArray, List.set_cons_zero, List.set_cons_succ])
          refine wpAnyH_take (i := 6) (v := ?_) (by rw [List.getElem?_toArray]; rfl) (by kernel_rfl) (by kernel_rfl) (by kernel_rfl) (by intro _ _ _ h; exact h) (Or.inl ⟨by rfl, ?_⟩) (by assumption) ?_
          rotate_left
          · (intro w hSw; (try dsimp only at hSw); go_simp; all_goals with_reducible rfl)
          (try simp only [Act.put, List.setIfInBounds_toArray, List.set_cons_zero, List.set_cons_succ])
          refine wpAnyH_take (i := 7) (v := ?_) (by rw [List.getElem?_toArray]; rfl) (by kernel_rfl) (by kernel_rfl) (by kernel_rfl) (by intro _ _ _ h; exact h) (Or.inl ⟨by rfl, ?_⟩) (by assumption) ?_
          rotate_left
          · (intro w hSw; (try dsimp only at hSw); go_simp; all_goals with_reducible rfl)
          (try simp only [Act.put, List.setIfInBounds_toArray, List.set_cons_zero, List.set_cons_succ])
          refine wpAnyH_ready (rs := [8]) (by kernel_rfl) (by simp) ?_
          refine (AllReadyH.cons (by rw [List.getElem?_toArray]; rfl) (fun K hK => ?_) AllReadyH.nil)
          go_simp
          (clear n0 n1 n2 n3 n4 n5 n6); (generalize IntKind.i64.wrap (1 + x2) = y2 at *); (have A6 := Below.nw vx2 (.cells #[.int .i64 x1, .int .i64 y2] 60)); (have HN : Hid (∀ j u, [Value.int .i64 x1, .int .i64 y2][j]? = some u → (vx2.alloc (.cells #[.int .i64 x1, .int .i64 y2] 60)).cell? ((⟨vx2.heap.size, 0, none⟩ : Addr).add j) = some u) := slot_at vx2 x1 y2); (replace T := T.below A6); (clear A6); (generalize vx2.heap.size = jb at *); (generalize vx2.alloc (.cells #[.int .i64 x1, .int .i64 y2] 60) = vx3 at *); (obtain ⟨n0, n1, n2, n3, n4, n5, n6⟩ := id T.1)
          refine hK.out _ _ ?_ (fun hHeld => ?_)
          · trivial
          clear hK K
          (try simp only [Act.put, List.setIfInBounds_toArray, List.set_cons_zero, List.set_cons_succ])
          refine wpAnyH_ready (rs := [9]) (by kernel_rfl) (by simp) ?_
          refine (AllReadyH.cons (by rw [List.getElem?_toArray]; rfl) (fun K hK => ?_) AllReadyH.nil)
          rw [if_pos (by rfl)]; (clear n0 n1 n2 n3 n4 n5 n6); (have hsz : w.heap.size + 1 ≤ vx3.heap.size := by have := T.1.1; omega); refine wp_append13 _ _ 27 rfl (w.heap.size + 1) 60 i0 (.agg #[.int .i64 0, .int .i64 0]) 2 16 Try.underlying27 hi hz0 hz1 hz2 rfl (by decide) _ _ _ rfl T.2.1 ⟨jb, 0, none⟩ 1 1 [.int .i64 x1, .int .i64 y2] rfl rfl HN.out (slot_one _ _) (by unfold maxLen; omega) (by omega) hsz ?_; intro v' wn hown' hgrow hfr; (rw [← srow_ins M n (x1, y2)] at hown'); (obtain ⟨a', c', rfl, _, _, _⟩ := ownF_src hown'); (have T3 := T.grow hp hB hbt hgrow hown' hfr); (have KQ := T.1.kept hgrow (fun e => T.2.2.2.2.2 bt e.symm rfl)); (clear hown' hgrow hfr HN T hsz); (obtain ⟨n0, n1, n2, n3, n4, n5, n6⟩ := id KQ)
          refine hK.out _ _ ?_ (fun hHeld => ?_)
          · trivial
          clear hK K
          (try simp only [Act.put, List.setIfInBounds_toArray, List.set_cons_zero, List.set_cons_succ])
          refine wpAnyH_take (i := 10) (v := ?_) (by rw [List.getElem?_toArray]; rfl) (by kernel_rfl) (by kernel_rfl) (by kernel_rfl) (by intro _ _ _ h; exact h) (Or.inl ⟨by rfl, ?_⟩) (by assumption) ?_
          rotate_left
          · (intro w hSw; (try dsimp only at hSw); go_simp; all_goals with_reducible rfl)
          (try simp only [Act.put, List.setIfInBounds_toArray, List.set_cons_zero, List.set_cons_succ])
          refine wpAnyH_ready (rs := [11]) (by kernel_rfl) (by simp) ?_
          refine (AllReadyH.cons (by rw [List.getElem?_toArray]; rfl) (fun K hK => ?_) AllReadyH.nil)
          go_simp
          (clear n0 n1 n2 n3 n4 n5 n6 KQ); (generalize wn.setCell ⟨bt, 2, none⟩ (.slice a' (n + 1) c') = v9 at *)
          refine hK.out _ _ ?_ (fun hHeld => ?_)
          · trivial
          clear hK K
          (try simp only [Act.put, List.setIfInBounds_toArray, List.set_cons_zero, List.set_cons_succ])
          refine wpAnyH_done (by kernel_rfl) ?_ _
          go_wp2_with fail
          go_roundw
          case rel => exact ⟨a', n + 1, c', _, by go_num, by omega, T3⟩
          case measure => simp [intOf]; omega
        · go_simp
          refine (l1Below_any B p 4 _ T.2.2.1).mono ?_; rintro e vx1 ⟨x1, rfl, x1l, x1h, x1p, _, cc, bb⟩; (clear n0 n1 n2 n3 n4 n5 n6); (have x1q := x1p (by omega)); (replace T := T.but cc bb hp hbt); (clear cc bb x1p); (obtain ⟨n0, n1, n2, n3, n4, n5, n6⟩ := id T.1)
          (try go_wp2_with fail)
          refine hK.out _ _ ?_ (fun hHeld => ?_)
          · trivial
          clear hK K
          (try simp only [Act.put, List.setIfInBounds_toArray, List.set_cons_zero, List.set_cons_succ])
          refine wpAnyH_ready (rs := [1, 5]) (by kernel_rfl) (by simp) ?_
          refine (AllReadyH.cons (by rw [List.getElem?_toArray]; rfl) (fun K hK => ?_) (AllReadyH.cons (by rw [List.getElem?_toArray]; rfl) (fun K hK => ?_) AllReadyH.nil))
          · go_simp
            refine hK.out _ _ ?_ (fun hHeld => ?_)
            · trivial
            clear hK K
            (try simp only [Act.put, List.setIfInBounds_toArray, List.set_cons_zero, List.set_cons_succ])
            refine wpAnyH_ready (rs := [5]) (by kernel_rfl) (by simp) ?_
            refine (AllReadyH.cons (by rw [List.getElem?_toArray]; rfl) (fun K hK => ?_) AllReadyH.nil)
            go_simp
            refine (l1Below_any B p 60 _ T.2.2.1).mono ?_; rintro e vx2 ⟨x2, rfl, x2l, x2h, x2p, _, cc, bb⟩; (clear n0 n1 n2 n3 n4 n5 n6); (have x2q := x2p (by omega)); (replace T := T.but cc bb hp hbt); (clear cc bb x2p); (obtain ⟨n0, n1, n2, n3, n4, n5, n6⟩ := id T.1)
            (try go_wp2_with fail)
            refine hK.out _ _ ?_ (fun hHeld => ?_)
            · trivial
            clear hK K
            (try simp only [Act.put, List.setIfInBounds_toArray, List.set_cons_zero, List.set_cons_succ])
            refine wpAnyH_take (i := 6) (v := ?_) (by rw [List.getElem?_toArray]; rfl) (by kernel_rfl) (by kernel_rfl) (by kernel_rfl) (by intro _ _ _ h; exact h) (Or.inl ⟨by rfl, ?_⟩) (by assumption) ?_
            rotate_left
            · (intro w hSw; (try dsimp only at hSw); go_simp; all_goals with_reducible rfl)
            (try simp only [Act.put, List.setIfInBounds_toArray, List.set_cons_zero, List.set_cons_succ])
            refine wpAnyH_take (i := 7) (v := ?_) (by rw [List.getElem?_toArray]; rfl) (by kernel_rfl) (by kernel_rfl) (by kernel_rfl) (by intro _ _ _ h; exact h) (Or.inl ⟨by rfl, ?_⟩) (by assumption) ?_
            rotate_left
            · (intro w hSw; (try dsimp only at hSw); go_simp; all_goals with_reducible rfl)
            (try simp only [Act.put, List.setIfInBounds_toArray, List.set_cons_zero, List.set_cons_succ])
            refine wpAnyH_ready (rs := [8]) (by kernel_rfl) (by simp) ?_
            refine (AllReadyH.cons (by rw [List.getElem?_toArray]; rfl) (fun K hK => ?_) AllReadyH.nil)
            go_simp
            (clear n0 n1 n2 n3 n4 n5 n6); (generalize IntKind.i64.wrap (1 + x2) = y2 at *); (have A6 := Below.nw vx2 (.cells #[.int .i64 x1, .int .i64 y2] 60)); (have HN : Hid (∀ j u, [Value.int .i64 x1, .int .i64 y2][j]? = some u → (vx2.alloc (.cells #[.int .i64 x1, .int .i64 y2] 60)).cell? ((⟨vx2.heap.size, 0, none⟩ : Addr).add j) = some u) := slot_at vx2 x1 y2); (replace T := T.below A6); (clear A6); (generalize vx2.heap.size = jb at *); (generalize vx2.alloc (.cells #[.int .i64 x1, .int .i64 y2] 60) = vx3 at *); (obtain ⟨n0, n1, n2, n3, n4, n5, n6⟩ := id T.1)
            refine hK.out _ _ ?_ (fun hHeld => ?_)
            · trivial
            clear hK K
            (try simp only [Act.put, List.setIfInBounds_toArray, List.set_cons_zero, List.set_cons_succ])
            refine wpAnyH_ready (rs := [9]) (by kernel_rfl) (by simp) ?_
            refine (AllReadyH.cons (by rw [List.getElem?_toArray]; rfl) (fun K hK => ?_) AllReadyH.nil)
            rw [if_pos (by rfl)]; (clear n0 n1 n2 n3 n4 n5 n6); (have hsz : w.heap.size + 1 ≤ vx3.heap.size := by have := T.1.1; omega); refine wp_append13 _ _ 27 rfl (w.heap.size + 1) 60 i0 (.agg #[.int .i64 0, .int .i64 0]) 2 16 Try.underlying27 hi hz0 hz1 hz2 rfl (by decide) _ _ _ rfl T.2.1 ⟨jb, 0, none⟩ 1 1 [.int .i64 x1, .int .i64 y2] rfl rfl HN.out (slot_one _ _) (by unfold maxLen; omega) (by omega) hsz ?_; intro v' wn hown' hgrow hfr; (rw [← srow_ins M n (x1, y2)] at hown'); (obtain ⟨a', c', rfl, _, _, _⟩ := ownF_src hown'); (have T3 := T.grow hp hB hbt hgrow hown' hfr); (have KQ := T.1.kept hgrow (fun e => T.2.2.2.2.2 bt e.symm rfl)); (clear hown' hgrow hfr HN T hsz); (obtain ⟨n0, n1, n2, n3, n4, n5, n6⟩ := id KQ)
            refine hK.out _ _ ?_ (fun hHeld => ?_)
            · trivial
            clear hK K
            (try simp only [Act.put, List.setIfInBounds_toArray, List.set_cons_zero, List.set_cons_succ])
            refine wpAnyH_take (i := 10) (v := ?_) (by rw [List.getElem?_toArray]; rfl) (by kernel_rfl) (by kernel_rfl) (by kernel_rfl) (by intro _ _ _ h; exact h) (Or.inl ⟨by rfl, ?_⟩) (by assumption) ?_
            rotate_left
            · (intro w hSw; (try dsimp only at hSw); go_simp; all_goals with_reducible rfl)
            (try simp only [Act.put, List.setIfInBounds_toArray, List.set_cons_zero, List.set_cons_succ])
            refine wpAnyH_ready (rs := [11]) (by kernel_rfl) (by simp) ?_
            refine (AllReadyH.cons (by rw [List.getElem?_toArray]; rfl) (fun K hK => ?_) AllReadyH.nil)
            go_simp
            (clear n0 n1 n2 n3 n4 n5 n6 KQ); (generalize wn.setCell ⟨bt, 2, none⟩ (.slice a' (n + 1) c') = v9 at *)
            refine hK.out _ _ ?_ (fun hHeld => ?_)
            · trivial
            clear hK K
            (try simp only [Act.put, List.setIfInBounds_toArray, List.set_cons_zero, List.set_cons_succ])
            refine wpAnyH_done (by kernel_rfl) ?_ _
            go_wp2_with fail
            go_roundw
            case rel => exact ⟨a', n + 1, c', _, by go_num, by omega, T3⟩
            case measure => simp [intOf]; omega
          · go_simp
            refine (l1Below_any B p 60 _ T.2.2.1).mono ?_; rintro e vx2 ⟨x2, rfl, x2l, x2h, x2p, _, cc, bb⟩; (clear n0 n1 n2 n3 n4 n5 n6); (have x2q := x2p (by omega)); (replace T := T.but cc bb hp hbt); (clear cc bb x2p); (obtain ⟨n0, n1, n2, n3, n4, n5, n6⟩ := id T.1)
            (try go_wp2_with fail)
            refine hK.out _ _ ?_ (fun hHeld => ?_)
            · trivial
            clear hK K
            (try simp only [Act.put, List.setIfInBounds_toArray, List.set_cons_zero, List.set_cons_succ])
            refine wpAnyH_take (i := 6) (v := ?_) (by rw [List.getElem?_toArray]; rfl) (by kernel_rfl) (by kernel_rfl) (by kernel_rfl) (by intro _ _ _ h; exact h) (Or.inl ⟨by rfl, ?_⟩) (by assumption) ?_
            rotate_left
            · (intro w hSw; (try dsimp only at hSw); go_simp; all_goals with_reducible rfl)
            (try simp only [Act.put, List.setIfInBounds_toArray, List.set_cons_zero, List.set_cons_succ])
            refine wpAnyH_take (i := 7) (v := ?_) (by rw [List.getElem?_toArray]; rfl) (by kernel_rfl) (by kernel_rfl) (by kernel_rfl) (by intro _ _ _ h; exact h) (Or.inl ⟨by rfl, ?_⟩) (by assumption) ?_
            rotate_left
            · (intro w hSw; (try dsimp only at hSw); go_simp; all_goals with_reducible rfl)
            (try simp only [Act.put, List.setIfInBounds_toArray, List.set_cons_zero, List.set_cons_succ])
            refine wpAnyH_ready (rs := [1, 8]) (by kernel_rfl) (by simp) ?_
            refine (AllReadyH.cons (by rw [List.getElem?_toArray]; rfl) (fun K hK => ?_) (AllReadyH.cons (by rw [List.getElem?_toArray]; rfl) (fun K hK => ?_) AllReadyH.nil))
            · go_simp
              refine hK.out _ _ ?_ (fun hHeld => ?_)
              · trivial
              clear hK K
              (try simp only [Act.put, List.setIfInBounds_toArray, List.set_cons_zero, List.set_cons_succ])
              refine wpAnyH_ready (rs := [8]) (by kernel_rfl) (by simp) ?_
              refine (AllReadyH.cons (by rw [List.getElem?_toArray]; rfl) (fun K hK => ?_) AllReadyH.nil)
              go_simp
              (clear n0 n1 n2 n3 n4 n5 n6); (generalize IntKind.i64.wrap (1 + x2) = y2 at *); (have A6 := Below.nw vx2 (.cells #[.int .i64 x1, .int .i64 y2] 60)); (have HN : Hid (∀ j u, [Value.int .i64 x1, .int .i64 y2][j]? = some u → (vx2.alloc (.cells #[.int .i64 x1, .int .i64 y2] 60)).cell? ((⟨vx2.heap.size, 0, none⟩ : Addr).add j) = some u) := slot_at vx2 x1 y2); (replace T := T.below A6); (clear A6); (generalize vx2.heap.size = jb at *); (generalize vx2.alloc (.cells #[.int .i64 x1, .int .i64 y2] 60) = vx3 at *); (obtain ⟨n0, n1, n2, n3, n4, n5, n6⟩ := id T.1)
              refine hK.out _ _ ?_ (fun hHeld => ?_)
              · trivial
              clear hK K
              (try simp only [Act.put, List.setIfInBounds_toArray, List.set_cons_zero, List.set_cons_succ])
              refine wpAnyH_ready (rs := [9]) (by kernel_rfl) (by simp) ?_
              refine (AllReadyH.cons (by rw [List.getElem?_toArray]; rfl) (fun K hK => ?_) AllReadyH.nil)
              rw [if_pos (by rfl)]; (clear n0 n1 n2 n3 n4 n5 n6); (have hsz : w.heap.size + 1 ≤ vx3.heap.size := by have := T.1.1; omega); refine wp_append13 _ _ 27 rfl (w.heap.size + 1) 60 i0 (.agg #[.int .i64 0, .int .i64 0]) 2 16 Try.underlying27 hi hz0 hz1 hz2 rfl (by decide) _ _ _ rfl T.2.1 ⟨jb, 0, none⟩ 1 1 [.int .i64 x1, .int .i64 y2] rfl rfl HN.out (slot_one _ _) (by unfold maxLen; omega) (by omega) hsz ?_; intro v' wn hown' hgrow hfr; (rw [← srow_ins M n (x1, y2)] at hown'); (obtain ⟨a', c', rfl, _, _, _⟩ := ownF_src hown'); (have T3 := T.grow hp hB hbt hgrow hown' hfr); (have KQ := T.1.kept hgrow (fun e => T.2.2.2.2.2 bt e.symm rfl)); (clear hown' hgrow hfr HN T hsz); (obtain ⟨n0, n1, n2, n3, n4, n5, n6⟩ := id KQ)
              refine hK.out _ _ ?_ (fun hHeld => ?_)
              · trivial
              clear hK K
              (try simp only [Act.put, List.setIfInBounds_toArray, List.set_cons_zero, List.set_cons_succ])
              refine wpAnyH_take (i := 10) (v := ?_) (by rw [List.getElem?_toArray]; rfl) (by kernel_rfl) (by kernel_rfl) (by kernel_rfl) (by intro _ _ _ h; exact h) (Or.inl ⟨by rfl, ?_⟩) (by assumption) ?_
              rotate_left
              · (intro w hSw; (try dsimp only at hSw); go_simp; all_goals with_reducible rfl)
              (try simp only [Act.put, List.setIfInBounds_toArray, List.set_cons_zero, List.set_cons_succ])
              refine wpAnyH_ready (rs := [11]) (by kernel_rfl) (by simp) ?_
              refine (AllReadyH.cons (by rw [List.getElem?_toArray]; rfl) (fun K hK => ?_) AllReadyH.nil)
              go_simp
              (clear n0 n1 n2 n3 n4 n5 n6 KQ); (generalize wn.setCell ⟨bt, 2, none⟩ (.slice a' (n + 1) c') = v9 at *)
              refine hK.out _ _ ?_ (fun hHeld => ?_)
              · trivial
              clear hK K
              (try simp only [Act.put, List.setIfInBounds_toArray, List.set_cons_zero, List.set_cons_succ])
              refine wpAnyH_done (by kernel_rfl) ?_ _
              go_wp2_with fail
              go_roundw
              case rel => exact ⟨a', n + 1, c', _, by go_num, by omega, T3⟩
              case measure => simp [intOf]; omega
            · go_simp
              (clear n0 n1 n2 n3 n4 n5 n6); (generalize IntKind.i64.wrap (1 + x2) = y2 at *); (have A6 := Below.nw vx2 (.cells #[.int .i64 x1, .int .i64 y2] 60)); (have HN : Hid (∀ j u, [Value.int .i64 x1, .int .i64 y2][j]? = some u → (vx2.alloc (.cells #[.int .i64 x1, .int .i64 y2] 60)).cell? ((⟨vx2.heap.size, 0, none⟩ : Addr).add j) = some u) := slot_at vx2 x1 y2); (replace T := T.below A6); (clear A6); (generalize vx2.heap.size = jb at *); (generalize vx2.alloc (.cells #[.int .i64 x1, .int .i64 y2] 60) = vx3 at *); (obtain ⟨n0, n1, n2, n3, n4, n5, n6⟩ := id T.1)
              refine hK.out _ _ ?_ (fun hHeld => ?_)
              · trivial
              clear hK K
              (try simp only [Act.put, List.setIfInBounds_toArray, List.set_cons_zero, List.set_cons_succ])
              refine wpAnyH_ready (rs := [1]) (by kernel_rfl) (by simp) ?_
              refine (AllReadyH.cons (by rw [List.getElem?_toArray]; rfl) (fun K hK => ?_) AllReadyH.nil)
              go_simp
              refine hK.out _ _ ?_ (fun hHeld => ?_)
              · trivial
              clear hK K
              (try simp only [Act.put, List.setIfInBounds_toArray, List.set_cons_zero, List.set_cons_succ])
              refine wpAnyH_ready (rs := [9]) (by kernel_rfl) (by simp) ?_
              refine (AllReadyH.cons (by rw [List.getElem?_toArray]; rfl) (fun K hK => ?_) AllReadyH.nil)
              rw [if_pos (by rfl)]; (clear n0 n1 n2 n3 n4 n5 n6); (have hsz : w.heap.size + 1 ≤ vx3.heap.size := by have := T.1.1; omega); refine wp_append13 _ _ 27 rfl (w.heap.size + 1) 60 i0 (.agg #[.int .i64 0, .int .i64 0]) 2 16 Try.underlying27 hi hz0 hz1 hz2 rfl (by decide) _ _ _ rfl T.2.1 ⟨jb, 0, none⟩ 1 1 [.int .i64 x1, .int .i64 y2] rfl rfl HN.out (slot_one _ _) (by unfold maxLen; omega) (by omega) hsz ?_; intro v' wn hown' hgrow hfr; (rw [← srow_ins M n (x1, y2)] at hown'); (obtain ⟨a', c', rfl, _, _, _⟩ := ownF_src hown'); (have T3 := T.grow hp hB hbt hgrow hown' hfr); (have KQ := T.1.kept hgrow (fun e => T.2.2.2.2.2 bt e.symm rfl)); (clear hown' hgrow hfr HN T hsz); (obtain ⟨n0, n1, n2, n3, n4, n5, n6⟩ := id KQ)
              refine hK.out _ _ ?_ (fun hHeld => ?_)
              · trivial
              clear hK K
              (try simp only [Act.put, List.setIfInBounds_toArray, List.set_cons_zero, List.set_cons_succ])
              refine wpAnyH_take (i := 10) (v := ?_) (by rw [List.getElem?_toArray]; rfl) (by kernel_rfl) (by kernel_rfl) (by kernel_rfl) (by intro _ _ _ h; exact h) (Or.inl ⟨by rfl, ?_⟩) (by assumption) ?_
              rotate_left
              · (intro w hSw; (try dsimp only at hSw); go_simp; all_goals with_reducible rfl)
              (try simp only [Act.put, List.setIfInBounds_toArray, List.set_cons_zero, List.set_cons_succ])
              refine wpAnyH_ready (rs := [11]) (by kernel_rfl) (by simp) ?_
              refine (AllReadyH.cons (by rw [List.getElem?_toArray]; rfl) (fun K hK => ?_) AllReadyH.nil)
              go_simp
              (clear n0 n1 n2 n3 n4 n5 n6 KQ); (generalize wn.setCell ⟨bt, 2, none⟩ (.slice a' (n + 1) c') = v9 at *)
              refine hK.out _ _ ?_ (fun hHeld => ?_)
              · trivial
              clear hK K
              (try simp only [Act.put, List.setIfInBounds_toArray, List.set_cons_zero, List.set_cons_succ])
              refine wpAnyH_done (by kernel_rfl) ?_ _
              go_wp2_with fail
              go_roundw
              case rel => exact ⟨a', n + 1, c', _, by go_num, by omega, T3⟩
              case measure => simp [intOf]; omega
      · have hkn : n = 12 := by omega
        subst hkn
        have hli : ¬ ((12 : Nat) : Int) < (12 : Int) := by omega
        have RS := T.result hp hB (u0 := .int .i64 s) (u1 := .int .i64 g) (u2 := .slice A 12 c)
        have RR := ((T.2.2.2.2.1.set0 (.int .i64 s)).set1 (.int .i64 g)).set2 (.slice A 12 c)
        obtain ⟨n0, n1, n2, n3, n4, n5, n6⟩ := id T.1
        obtain ⟨r0, r1, r2, r3, r4, r5, r6⟩ := id T.2.2.2.2.1
        go_wp2_with fail
        clear n0 n1 n2 n3 n4 n5 n6
        clear r0 r1 r2 r3 r4 r5 r6
        generalize ((wr.setCell ⟨w.heap.size, 0, none⟩ (.int .i64 s)).setCell ⟨w.heap.size, 1, none⟩ (.int .i64 g)).setCell ⟨w.heap.size, 2, none⟩ (.slice A 12 c) = vz at *
        obtain ⟨r0, r1, r2, r3, r4, r5, r6⟩ := id RR
        exact bodyPost_ret (v := (.agg #[.int .i64 s, .int .i64 g, .slice A 12 c])) (by simp (maxDischargeDepth := 6) [results, Try.results79, go_sem, *]) rfl ⟨s, g, A, 12, c, M, rfl, hN2.2, fun _ => hN2.1, RS⟩
end Go.Proofs.Ytkdbgchmknanlaa
