/- Plans beside the cursor; the draw of a plan. The draw of any plan. The draw of a time; what DrawNextOwn leaves. What the draws of a local interval, its drift and a count leave. Draws of the gate: how long a frame is, what is asked. -/
import Derived.Test.YtcakhfobkbgfoaaGreatDoorMC6
import Derived.Deep.RegionHeld3
import Derived.WalkKit
import Derived.WalkSpells
import Derived.WalkLawsBesides
import Derived.Deep.RegionHeld
import Derived.Laws.OwnMore
import Derived.Test.YtcakhfobkbgfoaaGreatDoorMC3
import Derived.Test.YtcakhfobkbgfoaaGreatDoorMC2
import Derived.Test.YtcakhfobkbgfoaaGreatDoorMC4
namespace Go.Proofs.YtcakhfobkbgfoaaGreatDoor
open Go.RowKit
set_option linter.unusedVariables false
/- A plan in a box beside the cursor, its slots in a row of one's own. -/
def insS (M : Nat → SlT) (n : Nat) (q : SlT) (i : Nat) : SlT := if i < n then M i else q
def updS (M : Nat → SlT) (q : SlT) (i : Nat) : SlT := if i = 0 then q else M i
theorem srow_ins (M : Nat → SlT) (n : Nat) (q : SlT) : srow (insS M n q) (n + 1) = srow M n ++ [.int .i64 q.1, .int .i64 q.2] := by
  rw [srow, mapF_add, srow]
  congr 1
  · refine List.map_congr_left fun c hc => ?_
    have hc' : c < n * 2 := List.mem_range.1 hc
    show MCSlot (insS M n q (c / 2)) _ = MCSlot (M (c / 2)) _
    rw [insS, if_pos (by omega)]
  · show [MFSlot (insS M n q) (n * 2 + 0), MFSlot (insS M n q) (n * 2 + 1)] = _
    rw [MFSlot_at _ _ 0 (by decide), MFSlot_at _ _ 1 (by decide), insS, if_neg (by omega)]
    rfl
theorem But.new13 {w w' w'' : World} {p j : Nat} (h : But p w w') (hb : But j w' w'') (hj : w.heap.size ≤ j) : But p w w'' :=
  ⟨hb.1.trans h.1, hb.2.1.trans h.2.1, hb.2.2.1.trans h.2.2.1, Nat.le_trans h.2.2.2.1 hb.2.2.2.1, fun k hk hp => (hb.2.2.2.2 k (Nat.lt_of_lt_of_le hk h.2.2.2.1) (by omega)).trans (h.2.2.2.2 k hk hp)⟩
theorem But.grow13 {w w' w'' : World} {p : Nat} {o : Option Nat} (h : But p w w') (hg : w'.grownBy w'' o) (ho : ∀ q, q < w.heap.size → some q ≠ o) : But p w w'' :=
  ⟨hg.os.trans h.1, hg.tape.trans h.2.1, hg.output.trans h.2.2.1, Nat.le_trans h.2.2.2.1 hg.size, fun k hk hp => (hg.block k (Nat.lt_of_lt_of_le hk h.2.2.2.1) (ho k hk)).trans (h.2.2.2.2 k hk hp)⟩
theorem But.one13 (w : World) (j o : Nat) (u : Value) : But j w (w.setCell ⟨j, o, none⟩ u) := (But.refl j w).setCell o u
theorem CurOk.below13 {w w' : World} {B p base : Nat} (h : CurOk w B p) (hb : Below base w w') (hp : p < base) : CurOk w' B p := by
  obtain ⟨a, n, c, i, hh, h0, h1, h2, f0, f1, f2, hi, hn, hc, hB, hpw⟩ := h
  refine ⟨a, n, c, i, hh, ?_, ?_, ?_, ?_, ?_, ?_, hi, hn, hc.below (hb.mono (by omega)), hB, Nat.lt_of_lt_of_le hpw hb.size⟩
  · rw [hb.cell (p := ⟨p, 0, none⟩) hp]; exact h0
  · rw [hb.cell (p := ⟨p, 1, none⟩) hp]; exact h1
  · rw [hb.cell (p := ⟨p, 2, none⟩) hp]; exact h2
  · rw [hb.frozen (p := ⟨p, 0, none⟩) hp]; exact f0
  · rw [hb.frozen (p := ⟨p, 1, none⟩) hp]; exact f1
  · rw [hb.frozen (p := ⟨p, 2, none⟩) hp]; exact f2
theorem wp_append13 {P : Program} {w : World} {o : Oper} {a : Act} {K : Act → World → Prop} {Q : Exit → Act → World → Prop} (s x : Operand) (t : TypeId)
    (ho : o.op = .call { callee := .builtin .append, args := #[s, x], argTypes := #[t, t] })
    (base : Nat) (e : TypeId) (i : TypeInfo) (z : Value) (size bytes : Nat) (ht : P.underlying t = some (.slice e)) (hi : P.info? e = some i) (hz : i.zero = some z)
    (hsize : i.size = size) (hby : i.bytes = bytes) (hzs : z.cells.size = size) (hsz : 0 < size)
    (v : Value) (n : Nat) (xs : List Value) (hs : a.eval s = v) (hown : w.ownsRow base e size v n xs)
    (ad : Addr) (m c : Nat) (news : List Value) (hx : a.eval x = .slice (some ad) m c) (hl : news.length = m * size) (hnews : ∀ j u, news[j]? = some u → w.cell? (ad.add j) = some u) (h1 : ∀ u ∈ news, u.oneCell' = true)
    (h63 : n + m ≤ maxLen) (hbytes : (n + m) * bytes ≤ 140737488355328) (hbase : base ≤ w.heap.size)
    (h : ∀ v' w', w'.ownsRow base e size v' (n + m) (xs ++ news) → w.grownBy w' v.ownBlock → (∀ g, v'.ownBlock = some g → v.ownBlock = some g ∨ w.heap.size ≤ g) → K (a.put o.dst v') w') : o.wp P a w K Q := by
  obtain ⟨v', w', hr, h2, h3, h4⟩ := run_append_new (P := P) w base t o.type e i z size bytes ht hi hz hsize hby hzs hsz v n xs hown ad m c news hl hnews h1 h63 hbytes hbase
  unfold Oper.wp execOp
  simp only [ho, resolve, invoke, builtin, Sem.run_bind, Sem.run_pure, Result.andThen_ok, List.map_toArray, List.map_cons, List.map_nil, hs, hx, hr]
  exact h v' w' h2 h3 h4
theorem slot_one (x y : Int) : ∀ u ∈ [Value.int .i64 x, .int .i64 y], u.oneCell' = true := by
  intro u hu
  simp at hu
  rcases hu with rfl | rfl <;> rfl
theorem slot_at (w : World) (x y : Int) : ∀ j u, [Value.int .i64 x, .int .i64 y][j]? = some u → (w.alloc (.cells #[.int .i64 x, .int .i64 y] 85)).cell? ((⟨w.heap.size, 0, none⟩ : Addr).add j) = some u := by
  intro j u h
  match j, h with
  | 0, h => simp at h; subst h; simp [Addr.add]
  | 1, h => simp at h; subst h; simp [Addr.add]
def Pw (w0 : World) (B p bt : Nat) (w : World) (s g : Int) (A : Option Addr) (n c : Nat) (M : Nat → SlT) : Prop := Tx3 w bt (.int .i64 s) (.int .i64 g) (.slice A n c) ∧ w.ownsRow (w0.heap.size + 1) 85 2 (.slice A n c) n (srow M n) ∧ CurOk w B p ∧ But p w0 w ∧ Tx3 w w0.heap.size (.int .i64 0) (.int .i64 0) (.slice none 0 0) ∧ (∀ q, (Value.slice A n c).ownBlock = some q → q ≠ bt)
section
variable {w0 w w' : World} {B p bt : Nat} {s g : Int} {A : Option Addr} {n c : Nat} {M : Nat → SlT}
theorem Pw.but (h : Pw w0 B p bt w s g A n c M) (hc : CurOk w' B p) (hb : But p w w') (hp : p < w0.heap.size) (hbt : w0.heap.size < bt) : Pw w0 B p bt w' s g A n c M :=
  ⟨h.1.but hb (by omega), own_butK h.2.1 hb (by omega), hc, h.2.2.2.1.trans hb, h.2.2.2.2.1.but hb (by omega), h.2.2.2.2.2⟩
theorem Pw.below (h : Pw w0 B p bt w s g A n c M) (hb : Below w.heap.size w w') : Pw w0 B p bt w' s g A n c M :=
  ⟨h.1.below hb, own_belK' h.2.1 hb, h.2.2.1.below hb, h.2.2.2.1.trans (But.of_below hb), h.2.2.2.2.1.below hb, h.2.2.2.2.2⟩
theorem Pw.drew (h : Pw w0 B p bt w s g A n c M) : Pw w0 B p bt w.drew s g A n c M := h
theorem Pw.set0 (h : Pw w0 B p bt w s g A n c M) (hp : p < w0.heap.size) (hB : B ≤ p) (hbt : w0.heap.size < bt) (s' : Int) : Pw w0 B p bt (w.setCell ⟨bt, 0, none⟩ (.int .i64 s')) s' g A n c M :=
  ⟨h.1.set0 _, own_neK h.2.1 (But.one13 _ _ _ _) h.2.2.2.2.2, h.2.2.1.setOther (by omega) (by omega) _ _, h.2.2.2.1.new13 (But.one13 _ _ _ _) (by omega), h.2.2.2.2.1.but (But.one13 _ _ _ _) (by omega), h.2.2.2.2.2⟩
theorem Pw.set1 (h : Pw w0 B p bt w s g A n c M) (hp : p < w0.heap.size) (hB : B ≤ p) (hbt : w0.heap.size < bt) (g' : Int) : Pw w0 B p bt (w.setCell ⟨bt, 1, none⟩ (.int .i64 g')) s g' A n c M :=
  ⟨h.1.set1 _, own_neK h.2.1 (But.one13 _ _ _ _) h.2.2.2.2.2, h.2.2.1.setOther (by omega) (by omega) _ _, h.2.2.2.1.new13 (But.one13 _ _ _ _) (by omega), h.2.2.2.2.1.but (But.one13 _ _ _ _) (by omega), h.2.2.2.2.2⟩
theorem Pw.empty (h : Pw w0 B p bt w s g A n c M) (hp : p < w0.heap.size) (hB : B ≤ p) (hbt : w0.heap.size < bt) (M' : Nat → SlT) : Pw w0 B p bt (w.setCell ⟨bt, 2, none⟩ (.slice none 0 0)) s g none 0 0 M' :=
  ⟨h.1.set2 _, World.ownsRow_nil _ _ _ _, h.2.2.1.setOther (by omega) (by omega) _ _, h.2.2.2.1.new13 (But.one13 _ _ _ _) (by omega), h.2.2.2.2.1.but (But.one13 _ _ _ _) (by omega), by intro q hq; simp [Value.ownBlock] at hq⟩
/- Its list grew: the row that it holds now. -/
theorem Pw.grow {A' : Option Addr} {n' c' : Nat} {M' : Nat → SlT} (h : Pw w0 B p bt w s g A n c M) (hp : p < w0.heap.size) (hB : B ≤ p) (hbt : w0.heap.size < bt) (hg : w.grownBy w' (Value.slice A n c).ownBlock) (ho : w'.ownsRow (w0.heap.size + 1) 85 2 (.slice A' n' c') n' (srow M' n')) (hf : ∀ q, (Value.slice A' n' c').ownBlock = some q → (Value.slice A n c).ownBlock = some q ∨ w.heap.size ≤ q) : Pw w0 B p bt (w'.setCell ⟨bt, 2, none⟩ (.slice A' n' c')) s g A' n' c' M' := by
  have hbw := h.1.1
  have hne : some bt ≠ (Value.slice A n c).ownBlock := fun e => h.2.2.2.2.2 bt e.symm rfl
  have hlt : ∀ q, q < w0.heap.size + 1 → some q ≠ (Value.slice A n c).ownBlock := fun q hq e => by have := (World.ownsRow.lt h.2.1 q e.symm).1; omega
  have hN : ∀ q, (Value.slice A' n' c').ownBlock = some q → q ≠ bt := fun q hq e => by
    rcases hf q hq with r | r
    · exact hne (by rw [r, e])
    · omega
  have hG : Below (w0.heap.size + 1) w w' := grown_bel hg (by omega) hlt
  have hc : CurOk w' B p := h.2.2.1.below13 hG (by omega)
  exact ⟨(h.1.kept hg hne).set2 _, own_neK ho (But.one13 _ _ _ _) hN, hc.setOther (by omega) (by omega) _ _, (h.2.2.2.1.grow13 hg (fun q hq => hlt q (by omega))).new13 (But.one13 _ _ _ _) (by omega), (h.2.2.2.2.1.kept hg (hlt _ (by omega))).but (But.one13 _ _ _ _) (by omega), hN⟩
theorem Pw.result (h : Pw w0 B p bt w s g A n c M) (hp : p < w0.heap.size) (hB : B ≤ p) {u0 u1 u2 : Value} : (((w.setCell ⟨w0.heap.size, 0, none⟩ u0).setCell ⟨w0.heap.size, 1, none⟩ u1).setCell ⟨w0.heap.size, 2, none⟩ u2).ownsRow w0.heap.size 85 2 (.slice A n c) n (srow M n) ∧ CurOk (((w.setCell ⟨w0.heap.size, 0, none⟩ u0).setCell ⟨w0.heap.size, 1, none⟩ u1).setCell ⟨w0.heap.size, 2, none⟩ u2) B p ∧ But p w0 (((w.setCell ⟨w0.heap.size, 0, none⟩ u0).setCell ⟨w0.heap.size, 1, none⟩ u1).setCell ⟨w0.heap.size, 2, none⟩ u2) := by
  have hb : But w0.heap.size w (((w.setCell ⟨w0.heap.size, 0, none⟩ u0).setCell ⟨w0.heap.size, 1, none⟩ u1).setCell ⟨w0.heap.size, 2, none⟩ u2) := (((But.refl _ w).setCell 0 u0).setCell 1 u1).setCell 2 u2
  exact ⟨own_baseI (own_butK h.2.1 hb (by omega)) (by omega), ((h.2.2.1.setOther (by omega) (by omega) _ _).setOther (by omega) (by omega) _ _).setOther (by omega) (by omega) _ _, h.2.2.2.1.new13 hb (Nat.le_refl _)⟩
end
def PlanDrawn (m : Nat) (w : World) (B p : Nat) (e : Ending) (w' : World) : Prop := ∃ (s g : Int) (A : Option Addr) (n c : Nat) (M : Nat → SlT), e = .returned (.agg #[.int .i64 s, .int .i64 g, .slice A n c]) ∧ n ≤ m ∧ (m = 12 → 1 ≤ n) ∧ w'.ownsRow w.heap.size 85 2 (.slice A n c) n (srow M n) ∧ CurOk w' B p ∧ But p w w'
set_option maxRecDepth 100000 in
set_option maxHeartbeats 16000000 in
theorem l13DrawPlan_any (B p : Nat) (w : World) (hcur : CurOk w B p) :
    Calls Tryz.prog 42 #[.pointer (some ⟨p, 0, none⟩)] w fun e w' => PlanDrawn 12 w B p e w' := by
  obtain ⟨i0, hi, hz0, hz1, hz2⟩ := info13_parts
  have hpl := hcur.lt
  have hp : p < w.heap.size := hpl.1
  have hB : B ≤ p := hpl.2
  have hpw : w.heap.size ≠ p := by omega
  have A1 := Below.nw w (.cells #[.int .i64 0, .int .i64 0, .slice none 0 0] 32)
  have R := Tx3.new w (.int .i64 0) (.int .i64 0) (.slice none 0 0) 32
  have cc0 := hcur.below A1
  have b0 : But p w _ := But.of_below A1
  clear A1 hcur hpl
  go_enter Tryz.func42, Tryz.ntmps42
  go_upto_region 1 with fail
  generalize w.alloc (.cells #[.int .i64 0, .int .i64 0, .slice none 0 0] 32) = v at *
  go_wp2_with fail
  refine (l1Below_any B p 40 _ cc0).mono ?_
  rintro e w1 ⟨s, rfl, sl, sh, sp, sz, cc, bb⟩
  replace R := R.but bb hpw
  replace b0 := b0.trans bb
  clear bb cc0 sh sp sz
  go_wp2_with fail
  refine (l1Below_any B p 6 _ cc).mono ?_
  rintro e w2 ⟨g, rfl, gl, gh, gp, gz, cc2, bb⟩
  replace R := R.but bb hpw
  replace b0 := b0.trans bb
  clear bb cc gh gp gz
  have A2 := Below.nw w2 (.cells #[.int .i64 s, .int .i64 g, .slice none 0 0] 32)
  have T : Pw w B p w2.heap.size (w2.alloc (.cells #[.int .i64 s, .int .i64 g, .slice none 0 0] 32)) s g none 0 0 (fun _ => zSl) := ⟨Tx3.new w2 _ _ _ _, World.ownsRow_nil _ _ _ _, cc2.below A2, b0.trans (But.of_below A2), R.below A2, by intro q hq; simp [Value.ownBlock] at hq⟩
  have hbt : w.heap.size < w2.heap.size := R.1
  clear A2 b0 R cc2
  go_upto_region 2 with fail
  generalize w2.heap.size = bt at *
  generalize w2.alloc (.cells #[.int .i64 s, .int .i64 g, .slice none 0 0] 32) = v at *
  go_wp2_with fail
  refine (l1Below_any B p 5 _ T.2.2.1).mono ?_; rintro e v1 ⟨m, rfl, ml, mh, mp, mz, cc, bb⟩; replace T := T.but cc bb hp hbt; clear cc bb mz
  have hm := mp (by omega)
  clear mp mh
  go_wp2_with fail
  refine (l1Once_any B p 20 _ T.2.2.1).mono ?_; rintro e v2 ⟨oo, rfl, cc, bb⟩; replace T := T.but cc bb hp hbt; clear cc bb
  cases oo
  · go_upto_region 5 with fail
    have hN0 : 0 ≤ 1 + m := by omega
    have hN1 : 1 ≤ 1 + m ∧ 1 + m ≤ 12 := by omega
    clear hm ml
    generalize 1 + m = nn at *
    obtain ⟨N, rfl⟩ := Int.eq_ofNat_of_zero_le hN0
    have hN2 : 1 ≤ N ∧ N ≤ 12 := by omega
    clear hN0 hN1
    go_wp2_with fail
    go_loopw [5] (fun i wr => ∃ (A : Option Addr) (n c : Nat) (M : Nat → SlT), i = .int .i64 (n : Int) ∧ n ≤ N ∧ Pw w B p bt wr s g A n c M) (fun i _ => N - (intOf i).toNat)
    case atStart => exact ⟨none, 0, 0, fun _ => zSl, rfl, Nat.zero_le _, T⟩
    case round =>
      clear T
      obtain ⟨A, n, c, M, rfl, hn, T⟩ := hrel
      by_cases hlt : n < N
      · have hli : (n : Int) < (N : Int) := by omega
        obtain ⟨n0, n1, n2, n3, n4, n5, n6⟩ := id T.1
        go_upto_region 8 with fail
        refine wp_region_held_drew (S := (fun _ => True)) (by kernel_rfl) ?_ (fun hHeld => ?_)
        · trivial
        clear n0 n1 n2 n3 n4 n5 n6
        replace T := T.drew
        generalize wr.drew = vx at *
        (obtain ⟨n0, n1, n2, n3, n4, n5, n6⟩ := id T.1)
        refine wpAnyH_take (i := 0) (v := ?_) (by rw [List.getElem?_toArray]; rfl) (by kernel_rfl) (by kernel_rfl) (by kernel_rfl) (by intro _ _ _ h; exact h) (Or.inl ⟨by rfl, ?_⟩) (by assumption) ?_
        rotate_left
        · (intro w hSw; (try dsimp only at hSw); go_simp; all_goals with_reducible rfl)
        (try simp only [Act.put, List.setIfInBounds_toArray, List.set_cons_zero, List.set_cons_succ])
        refine wpAnyH_take (i := 2) (v := ?_) (by rw [List.getElem?_toArray]; rfl) (by kernel_rfl) (by kernel_rfl) (by kernel_rfl) (by intro _ _ _ h; exact h) (Or.inl ⟨by rfl, ?_⟩) (by assumption) ?_
        rotate_left
        · (intro w hSw; (try dsimp only at hSw); go_simp; all_goals with_reducible rfl)
        (try simp only [Act.put, List.setIfInBounds_toArray, List.set_cons_zero, List.set_cons_succ])
        refine wpAnyH_take (i := 4) (v := ?_) (by rw [List.getElem?_toArray]; rfl) (by kernel_rfl) (by kernel_rfl) (by kernel_rfl) (by intro _ _ _ h; exact h) (Or.inl ⟨by rfl, ?_⟩) (by assumption) ?_
        rotate_left
        · (intro w hSw; (try dsimp only at hSw); go_simp; all_goals with_reducible rfl)
        (try simp only [Act.put, List.setIfInBounds_toArray, List.set_cons_zero, List.set_cons_succ])
        refine wpAnyH_ready (rs := [1, 3]) (by kernel_rfl) (by simp) ?_
        refine (AllReadyH.cons (by rw [List.getElem?_toArray]; rfl) (fun K hK => ?_) (AllReadyH.cons (by rw [List.getElem?_toArray]; rfl) (fun K hK => ?_) AllReadyH.nil))
        · go_simp
          refine hK.out _ _ ?_ (fun hHeld => ?_)
          · trivial
          clear hK K
          (try simp only [Act.put, List.setIfInBounds_toArray, List.set_cons_zero, List.set_cons_succ])
          refine wpAnyH_ready (rs := [3]) (by kernel_rfl) (by simp) ?_
          refine (AllReadyH.cons (by rw [List.getElem?_toArray]; rfl) (fun K hK => ?_) AllReadyH.nil)
          go_simp
          refine (l1Below_any B p 4 _ T.2.2.1).mono ?_; rintro e vx1 ⟨x1, rfl, x1l, x1h, x1p, _, cc, bb⟩; (clear n0 n1 n2 n3 n4 n5 n6); (have x1q := x1p (by omega)); (replace T := T.but cc bb hp hbt); (clear cc bb x1p); (obtain ⟨n0, n1, n2, n3, n4, n5, n6⟩ := id T.1)
          (try go_wp2_with fail)
          refine hK.out _ _ ?_ (fun hHeld => ?_)
          · trivial
          clear hK K
          (try simp only [Act.put, List.setIfInBounds_toArray, List.set_cons_zero, List.set_cons_succ])
          refine wpAnyH_ready (rs := [5]) (by kernel_rfl) (by simp) ?_
          refine (AllReadyH.cons (by rw [List.getElem?_toArray]; rfl) (fun K hK => ?_) AllReadyH.nil)
          go_simp
          refine (l1Below_any B p 60 _ T.2.2.1).mono ?_; rintro e vx2 ⟨x2, rfl, x2l, x2h, x2p, _, cc, bb⟩; (clear n0 n1 n2 n3 n4 n5 n6); (have x2q := x2p (by omega)); (replace T := T.but cc bb hp hbt); (clear cc bb x2p); (obtain ⟨n0, n1, n2, n3, n4, n5, n6⟩ := id T.1)
          (try go_wp2_with fail)
          refine hK.out _ _ ?_ (fun hHeld => ?_)
          · trivial
          clear hK K
          (try simp only [Act.put, List.setIfInBounds_toArray, List.set_cons_zero, List.set_cons_succ])
          refine wpAnyH_take (i := 6) (v := ?_) (by rw [List.getElem?_toArray]; rfl) (by kernel_rfl) (by kernel_rfl) (by kernel_rfl) (by intro _ _ _ h; exact h) (Or.inl ⟨by rfl, ?_⟩) (by assumption) ?_
          rotate_left
          · (intro w hSw; (try dsimp only at hSw); go_simp; all_goals with_reducible rfl)
          (try simp only [Act.put, List.setIfInBounds_toArray, List.set_cons_zero, List.set_cons_succ])
          refine wpAnyH_take (i := 7) (v := ?_) (by rw [List.getElem?_toArray]; rfl) (by kernel_rfl) (by kernel_rfl) (by kernel_rfl) (by intro _ _ _ h; exact h) (Or.inl ⟨by rfl, ?_⟩) (by assumption) ?_
          rotate_left
          · (intro w hSw; (try dsimp only at hSw); go_simp; all_goals with_reducible rfl)
          (try simp only [Act.put, List.setIfInBounds_toArray, List.set_cons_zero, List.set_cons_succ])
          refine wpAnyH_ready (rs := [8]) (by kernel_rfl) (by simp) ?_
          refine (AllReadyH.cons (by rw [List.getElem?_toArray]; rfl) (fun K hK => ?_) AllReadyH.nil)
          go_simp
          (clear n0 n1 n2 n3 n4 n5 n6); (generalize IntKind.i64.wrap (1 + x2) = y2 at *); (have A6 := Below.nw vx2 (.cells #[.int .i64 x1, .int .i64 y2] 85)); (have HN : Hid (∀ j u, [Value.int .i64 x1, .int .i64 y2][j]? = some u → (vx2.alloc (.cells #[.int .i64 x1, .int .i64 y2] 85)).cell? ((⟨vx2.heap.size, 0, none⟩ : Addr).add j) = some u) := slot_at vx2 x1 y2); (replace T := T.below A6); (clear A6); (generalize vx2.heap.size = jb at *); (generalize vx2.alloc (.cells #[.int .i64 x1, .int .i64 y2] 85) = vx3 at *); (obtain ⟨n0, n1, n2, n3, n4, n5, n6⟩ := id T.1)
          refine hK.out _ _ ?_ (fun hHeld => ?_)
          · trivial
          clear hK K
          (try simp only [Act.put, List.setIfInBounds_toArray, List.set_cons_zero, List.set_cons_succ])
          refine wpAnyH_ready (rs := [9]) (by kernel_rfl) (by simp) ?_
          refine (AllReadyH.cons (by rw [List.getElem?_toArray]; rfl) (fun K hK => ?_) AllReadyH.nil)
          rw [if_pos (by rfl)]; (clear n0 n1 n2 n3 n4 n5 n6); (have hsz : w.heap.size + 1 ≤ vx3.heap.size := by have := T.1.1; omega); refine wp_append13 _ _ 30 rfl (w.heap.size + 1) 85 i0 (.agg #[.int .i64 0, .int .i64 0]) 2 16 Tryz.underlying30 hi hz0 hz1 hz2 rfl (by decide) _ _ _ rfl T.2.1 ⟨jb, 0, none⟩ 1 1 [.int .i64 x1, .int .i64 y2] rfl rfl HN.out (slot_one _ _) (by unfold maxLen; omega) (by omega) hsz ?_; intro v' wn hown' hgrow hfr; (rw [← srow_ins M n (x1, y2)] at hown'); (obtain ⟨a', c', rfl, _, _, _⟩ := ownF_src hown'); (have T3 := T.grow hp hB hbt hgrow hown' hfr); (have KQ := T.1.kept hgrow (fun e => T.2.2.2.2.2 bt e.symm rfl)); (clear hown' hgrow hfr HN T hsz); (obtain ⟨n0, n1, n2, n3, n4, n5, n6⟩ := id KQ)
          refine hK.out _ _ ?_ (fun hHeld => ?_)
          · trivial
          clear hK K
          (try simp only [Act.put, List.setIfInBounds_toArray, List.set_cons_zero, List.set_cons_succ])
          refine wpAnyH_take (i := 10) (v := ?_) (by rw [List.getElem?_toArray]; rfl) (by kernel_rfl) (by kernel_rfl) (by kernel_rfl) (by intro _ _ _ h; exact h) (Or.inl ⟨by rfl, ?_⟩) (by assumption) ?_
          rotate_left
          · (intro w hSw; (try dsimp only at hSw); go_simp; all_goals with_reducible rfl)
          (try simp only [Act.put, List.setIfInBounds_toArray, List.set_cons_zero, List.set_cons_succ])
          refine wpAnyH_ready (rs := [11]) (by kernel_rfl) (by simp) ?_
          refine (AllReadyH.cons (by rw [List.getElem?_toArray]; rfl) (fun K hK => ?_) AllReadyH.nil)
          go_simp
          (clear n0 n1 n2 n3 n4 n5 n6 KQ); (generalize wn.setCell ⟨bt, 2, none⟩ (.slice a' (n + 1) c') = v9 at *)
          refine hK.out _ _ ?_ (fun hHeld => ?_)
          · trivial
          clear hK K
          (try simp only [Act.put, List.setIfInBounds_toArray, List.set_cons_zero, List.set_cons_succ])
          refine wpAnyH_done (by kernel_rfl) ?_ _
          go_wp2_with fail
          go_roundw
          case rel => exact ⟨a', n + 1, c', _, by go_num, by omega, T3⟩
          case measure => simp [intOf]; omega
        · go_simp
          refine (l1Below_any B p 4 _ T.2.2.1).mono ?_; rintro e vx1 ⟨x1, rfl, x1l, x1h, x1p, _, cc, bb⟩; (clear n0 n1 n2 n3 n4 n5 n6); (have x1q := x1p (by omega)); (replace T := T.but cc bb hp hbt); (clear cc bb x1p); (obtain ⟨n0, n1, n2, n3, n4, n5, n6⟩ := id T.1)
          (try go_wp2_with fail)
          refine hK.out _ _ ?_ (fun hHeld => ?_)
          · trivial
          clear hK K
          (try simp only [Act.put, List.setIfInBounds_toArray, List.set_cons_zero, List.set_cons_succ])
          refine wpAnyH_ready (rs := [1, 5]) (by kernel_rfl) (by simp) ?_
          refine (AllReadyH.cons (by rw [List.getElem?_toArray]; rfl) (fun K hK => ?_) (AllReadyH.cons (by rw [List.getElem?_toArray]; rfl) (fun K hK => ?_) AllReadyH.nil))
          · go_simp
            refine hK.out _ _ ?_ (fun hHeld => ?_)
            · trivial
            clear hK K
            (try simp only [Act.put, List.setIfInBounds_toArray, List.set_cons_zero, List.set_cons_succ])
            refine wpAnyH_ready (rs := [5]) (by kernel_rfl) (by simp) ?_
            refine (AllReadyH.cons (by rw [List.getElem?_toArray]; rfl) (fun K hK => ?_) AllReadyH.nil)
            go_simp
            refine (l1Below_any B p 60 _ T.2.2.1).mono ?_; rintro e vx2 ⟨x2, rfl, x2l, x2h, x2p, _, cc, bb⟩; (clear n0 n1 n2 n3 n4 n5 n6); (have x2q := x2p (by omega)); (replace T := T.but cc bb hp hbt); (clear cc bb x2p); (obtain ⟨n0, n1, n2, n3, n4, n5, n6⟩ := id T.1)
            (try go_wp2_with fail)
            refine hK.out _ _ ?_ (fun hHeld => ?_)
            · trivial
            clear hK K
            (try simp only [Act.put, List.setIfInBounds_toArray, List.set_cons_zero, List.set_cons_succ])
            refine wpAnyH_take (i := 6) (v := ?_) (by rw [List.getElem?_toArray]; rfl) (by kernel_rfl) (by kernel_rfl) (by kernel_rfl) (by intro _ _ _ h; exact h) (Or.inl ⟨by rfl, ?_⟩) (by assumption) ?_
            rotate_left
            · (intro w hSw; (try dsimp only at hSw); go_simp; all_goals with_reducible rfl)
            (try simp only [Act.put, List.setIfInBounds_toArray, List.set_cons_zero, List.set_cons_succ])
            refine wpAnyH_take (i := 7) (v := ?_) (by rw [List.getElem?_toArray]; rfl) (by kernel_rfl) (by kernel_rfl) (by kernel_rfl) (by intro _ _ _ h; exact h) (Or.inl ⟨by rfl, ?_⟩) (by assumption) ?_
            rotate_left
            · (intro w hSw; (try dsimp only at hSw); go_simp; all_goals with_reducible rfl)
            (try simp only [Act.put, List.setIfInBounds_toArray, List.set_cons_zero, List.set_cons_succ])
            refine wpAnyH_ready (rs := [8]) (by kernel_rfl) (by simp) ?_
            refine (AllReadyH.cons (by rw [List.getElem?_toArray]; rfl) (fun K hK => ?_) AllReadyH.nil)
            go_simp
            (clear n0 n1 n2 n3 n4 n5 n6); (generalize IntKind.i64.wrap (1 + x2) = y2 at *); (have A6 := Below.nw vx2 (.cells #[.int .i64 x1, .int .i64 y2] 85)); (have HN : Hid (∀ j u, [Value.int .i64 x1, .int .i64 y2][j]? = some u → (vx2.alloc (.cells #[.int .i64 x1, .int .i64 y2] 85)).cell? ((⟨vx2.heap.size, 0, none⟩ : Addr).add j) = some u) := slot_at vx2 x1 y2); (replace T := T.below A6); (clear A6); (generalize vx2.heap.size = jb at *); (generalize vx2.alloc (.cells #[.int .i64 x1, .int .i64 y2] 85) = vx3 at *); (obtain ⟨n0, n1, n2, n3, n4, n5, n6⟩ := id T.1)
            refine hK.out _ _ ?_ (fun hHeld => ?_)
            · trivial
            clear hK K
            (try simp only [Act.put, List.setIfInBounds_toArray, List.set_cons_zero, List.set_cons_succ])
            refine wpAnyH_ready (rs := [9]) (by kernel_rfl) (by simp) ?_
            refine (AllReadyH.cons (by rw [List.getElem?_toArray]; rfl) (fun K hK => ?_) AllReadyH.nil)
            rw [if_pos (by rfl)]; (clear n0 n1 n2 n3 n4 n5 n6); (have hsz : w.heap.size + 1 ≤ vx3.heap.size := by have := T.1.1; omega); refine wp_append13 _ _ 30 rfl (w.heap.size + 1) 85 i0 (.agg #[.int .i64 0, .int .i64 0]) 2 16 Tryz.underlying30 hi hz0 hz1 hz2 rfl (by decide) _ _ _ rfl T.2.1 ⟨jb, 0, none⟩ 1 1 [.int .i64 x1, .int .i64 y2] rfl rfl HN.out (slot_one _ _) (by unfold maxLen; omega) (by omega) hsz ?_; intro v' wn hown' hgrow hfr; (rw [← srow_ins M n (x1, y2)] at hown'); (obtain ⟨a', c', rfl, _, _, _⟩ := ownF_src hown'); (have T3 := T.grow hp hB hbt hgrow hown' hfr); (have KQ := T.1.kept hgrow (fun e => T.2.2.2.2.2 bt e.symm rfl)); (clear hown' hgrow hfr HN T hsz); (obtain ⟨n0, n1, n2, n3, n4, n5, n6⟩ := id KQ)
            refine hK.out _ _ ?_ (fun hHeld => ?_)
            · trivial
            clear hK K
            (try simp only [Act.put, List.setIfInBounds_toArray, List.set_cons_zero, List.set_cons_succ])
            refine wpAnyH_take (i := 10) (v := ?_) (by rw [List.getElem?_toArray]; rfl) (by kernel_rfl) (by kernel_rfl) (by kernel_rfl) (by intro _ _ _ h; exact h) (Or.inl ⟨by rfl, ?_⟩) (by assumption) ?_
            rotate_left
            · (intro w hSw; (try dsimp only at hSw); go_simp; all_goals with_reducible rfl)
            (try simp only [Act.put, List.setIfInBounds_toArray, List.set_cons_zero, List.set_cons_succ])
            refine wpAnyH_ready (rs := [11]) (by kernel_rfl) (by simp) ?_
            refine (AllReadyH.cons (by rw [List.getElem?_toArray]; rfl) (fun K hK => ?_) AllReadyH.nil)
            go_simp
            (clear n0 n1 n2 n3 n4 n5 n6 KQ); (generalize wn.setCell ⟨bt, 2, none⟩ (.slice a' (n + 1) c') = v9 at *)
            refine hK.out _ _ ?_ (fun hHeld => ?_)
            · trivial
            clear hK K
            (try simp only [Act.put, List.setIfInBounds_toArray, List.set_cons_zero, List.set_cons_succ])
            refine wpAnyH_done (by kernel_rfl) ?_ _
            go_wp2_with fail
            go_roundw
            case rel => exact ⟨a', n + 1, c', _, by go_num, by omega, T3⟩
            case measure => simp [intOf]; omega
          · go_simp
            refine (l1Below_any B p 60 _ T.2.2.1).mono ?_; rintro e vx2 ⟨x2, rfl, x2l, x2h, x2p, _, cc, bb⟩; (clear n0 n1 n2 n3 n4 n5 n6); (have x2q := x2p (by omega)); (replace T := T.but cc bb hp hbt); (clear cc bb x2p); (obtain ⟨n0, n1, n2, n3, n4, n5, n6⟩ := id T.1)
            (try go_wp2_with fail)
            refine hK.out _ _ ?_ (fun hHeld => ?_)
            · trivial
            clear hK K
            (try simp only [Act.put, List.setIfInBounds_toArray, List.set_cons_zero, List.set_cons_succ])
            refine wpAnyH_take (i := 6) (v := ?_) (by rw [List.getElem?_toArray]; rfl) (by kernel_rfl) (by kernel_rfl) (by kernel_rfl) (by intro _ _ _ h; exact h) (Or.inl ⟨by rfl, ?_⟩) (by assumption) ?_
            rotate_left
            · (intro w hSw; (try dsimp only at hSw); go_simp; all_goals with_reducible rfl)
            (try simp only [Act.put, List.setIfInBounds_toArray, List.set_cons_zero, List.set_cons_succ])
            refine wpAnyH_take (i := 7) (v := ?_) (by rw [List.getElem?_toArray]; rfl) (by kernel_rfl) (by kernel_rfl) (by kernel_rfl) (by intro _ _ _ h; exact h) (Or.inl ⟨by rfl, ?_⟩) (by assumption) ?_
            rotate_left
            · (intro w hSw; (try dsimp only at hSw); go_simp; all_goals with_reducible rfl)
            (try simp only [Act.put, List.setIfInBounds_toArray, List.set_cons_zero, List.set_cons_succ])
            refine wpAnyH_ready (rs := [1, 8]) (by kernel_rfl) (by simp) ?_
            refine (AllReadyH.cons (by rw [List.getElem?_toArray]; rfl) (fun K hK => ?_) (AllReadyH.cons (by rw [List.getElem?_toArray]; rfl) (fun K hK => ?_) AllReadyH.nil))
            · go_simp
              refine hK.out _ _ ?_ (fun hHeld => ?_)
              · trivial
              clear hK K
              (try simp only [Act.put, List.setIfInBounds_toArray, List.set_cons_zero, List.set_cons_succ])
              refine wpAnyH_ready (rs := [8]) (by kernel_rfl) (by simp) ?_
              refine (AllReadyH.cons (by rw [List.getElem?_toArray]; rfl) (fun K hK => ?_) AllReadyH.nil)
              go_simp
              (clear n0 n1 n2 n3 n4 n5 n6); (generalize IntKind.i64.wrap (1 + x2) = y2 at *); (have A6 := Below.nw vx2 (.cells #[.int .i64 x1, .int .i64 y2] 85)); (have HN : Hid (∀ j u, [Value.int .i64 x1, .int .i64 y2][j]? = some u → (vx2.alloc (.cells #[.int .i64 x1, .int .i64 y2] 85)).cell? ((⟨vx2.heap.size, 0, none⟩ : Addr).add j) = some u) := slot_at vx2 x1 y2); (replace T := T.below A6); (clear A6); (generalize vx2.heap.size = jb at *); (generalize vx2.alloc (.cells #[.int .i64 x1, .int .i64 y2] 85) = vx3 at *); (obtain ⟨n0, n1, n2, n3, n4, n5, n6⟩ := id T.1)
              refine hK.out _ _ ?_ (fun hHeld => ?_)
              · trivial
              clear hK K
              (try simp only [Act.put, List.setIfInBounds_toArray, List.set_cons_zero, List.set_cons_succ])
              refine wpAnyH_ready (rs := [9]) (by kernel_rfl) (by simp) ?_
              refine (AllReadyH.cons (by rw [List.getElem?_toArray]; rfl) (fun K hK => ?_) AllReadyH.nil)
              rw [if_pos (by rfl)]; (clear n0 n1 n2 n3 n4 n5 n6); (have hsz : w.heap.size + 1 ≤ vx3.heap.size := by have := T.1.1; omega); refine wp_append13 _ _ 30 rfl (w.heap.size + 1) 85 i0 (.agg #[.int .i64 0, .int .i64 0]) 2 16 Tryz.underlying30 hi hz0 hz1 hz2 rfl (by decide) _ _ _ rfl T.2.1 ⟨jb, 0, none⟩ 1 1 [.int .i64 x1, .int .i64 y2] rfl rfl HN.out (slot_one _ _) (by unfold maxLen; omega) (by omega) hsz ?_; intro v' wn hown' hgrow hfr; (rw [← srow_ins M n (x1, y2)] at hown'); (obtain ⟨a', c', rfl, _, _, _⟩ := ownF_src hown'); (have T3 := T.grow hp hB hbt hgrow hown' hfr); (have KQ := T.1.kept hgrow (fun e => T.2.2.2.2.2 bt e.symm rfl)); (clear hown' hgrow hfr HN T hsz); (obtain ⟨n0, n1, n2, n3, n4, n5, n6⟩ := id KQ)
              refine hK.out _ _ ?_ (fun hHeld => ?_)
              · trivial
              clear hK K
              (try simp only [Act.put, List.setIfInBounds_toArray, List.set_cons_zero, List.set_cons_succ])
              refine wpAnyH_take (i := 10) (v := ?_) (by rw [List.getElem?_toArray]; rfl) (by kernel_rfl) (by kernel_rfl) (by kernel_rfl) (by intro _ _ _ h; exact h) (Or.inl ⟨by rfl, ?_⟩) (by assumption) ?_
              rotate_left
              · (intro w hSw; (try dsimp only at hSw); go_simp; all_goals with_reducible rfl)
              (try simp only [Act.put, List.setIfInBounds_toArray, List.set_cons_zero, List.set_cons_succ])
              refine wpAnyH_ready (rs := [11]) (by kernel_rfl) (by simp) ?_
              refine (AllReadyH.cons (by rw [List.getElem?_toArray]; rfl) (fun K hK => ?_) AllReadyH.nil)
              go_simp
              (clear n0 n1 n2 n3 n4 n5 n6 KQ); (generalize wn.setCell ⟨bt, 2, none⟩ (.slice a' (n + 1) c') = v9 at *)
              refine hK.out _ _ ?_ (fun hHeld => ?_)
              · trivial
              clear hK K
              (try simp only [Act.put, List.setIfInBounds_toArray, List.set_cons_zero, List.set_cons_succ])
              refine wpAnyH_done (by kernel_rfl) ?_ _
              go_wp2_with fail
              go_roundw
              case rel => exact ⟨a', n + 1, c', _, by go_num, by omega, T3⟩
              case measure => simp [intOf]; omega
            · go_simp
              (clear n0 n1 n2 n3 n4 n5 n6); (generalize IntKind.i64.wrap (1 + x2) = y2 at *); (have A6 := Below.nw vx2 (.cells #[.int .i64 x1, .int .i64 y2] 85)); (have HN : Hid (∀ j u, [Value.int .i64 x1, .int .i64 y2][j]? = some u → (vx2.alloc (.cells #[.int .i64 x1, .int .i64 y2] 85)).cell? ((⟨vx2.heap.size, 0, none⟩ : Addr).add j) = some u) := slot_at vx2 x1 y2); (replace T := T.below A6); (clear A6); (generalize vx2.heap.size = jb at *); (generalize vx2.alloc (.cells #[.int .i64 x1, .int .i64 y2] 85) = vx3 at *); (obtain ⟨n0, n1, n2, n3, n4, n5, n6⟩ := id T.1)
              refine hK.out _ _ ?_ (fun hHeld => ?_)
              · trivial
              clear hK K
              (try simp only [Act.put, List.setIfInBounds_toArray, List.set_cons_zero, List.set_cons_succ])
              refine wpAnyH_ready (rs := [1]) (by kernel_rfl) (by simp) ?_
              refine (AllReadyH.cons (by rw [List.getElem?_toArray]; rfl) (fun K hK => ?_) AllReadyH.nil)
              go_simp
              refine hK.out _ _ ?_ (fun hHeld => ?_)
              · trivial
              clear hK K
              (try simp only [Act.put, List.setIfInBounds_toArray, List.set_cons_zero, List.set_cons_succ])
              refine wpAnyH_ready (rs := [9]) (by kernel_rfl) (by simp) ?_
              refine (AllReadyH.cons (by rw [List.getElem?_toArray]; rfl) (fun K hK => ?_) AllReadyH.nil)
              rw [if_pos (by rfl)]; (clear n0 n1 n2 n3 n4 n5 n6); (have hsz : w.heap.size + 1 ≤ vx3.heap.size := by have := T.1.1; omega); refine wp_append13 _ _ 30 rfl (w.heap.size + 1) 85 i0 (.agg #[.int .i64 0, .int .i64 0]) 2 16 Tryz.underlying30 hi hz0 hz1 hz2 rfl (by decide) _ _ _ rfl T.2.1 ⟨jb, 0, none⟩ 1 1 [.int .i64 x1, .int .i64 y2] rfl rfl HN.out (slot_one _ _) (by unfold maxLen; omega) (by omega) hsz ?_; intro v' wn hown' hgrow hfr; (rw [← srow_ins M n (x1, y2)] at hown'); (obtain ⟨a', c', rfl, _, _, _⟩ := ownF_src hown'); (have T3 := T.grow hp hB hbt hgrow hown' hfr); (have KQ := T.1.kept hgrow (fun e => T.2.2.2.2.2 bt e.symm rfl)); (clear hown' hgrow hfr HN T hsz); (obtain ⟨n0, n1, n2, n3, n4, n5, n6⟩ := id KQ)
              refine hK.out _ _ ?_ (fun hHeld => ?_)
              · trivial
              clear hK K
              (try simp only [Act.put, List.setIfInBounds_toArray, List.set_cons_zero, List.set_cons_succ])
              refine wpAnyH_take (i := 10) (v := ?_) (by rw [List.getElem?_toArray]; rfl) (by kernel_rfl) (by kernel_rfl) (by kernel_rfl) (by intro _ _ _ h; exact h) (Or.inl ⟨by rfl, ?_⟩) (by assumption) ?_
              rotate_left
              · (intro w hSw; (try dsimp only at hSw); go_simp; all_goals with_reducible rfl)
              (try simp only [Act.put, List.setIfInBounds_toArray, List.set_cons_zero, List.set_cons_succ])
              refine wpAnyH_ready (rs := [11]) (by kernel_rfl) (by simp) ?_
              refine (AllReadyH.cons (by rw [List.getElem?_toArray]; rfl) (fun K hK => ?_) AllReadyH.nil)
              go_simp
              (clear n0 n1 n2 n3 n4 n5 n6 KQ); (generalize wn.setCell ⟨bt, 2, none⟩ (.slice a' (n + 1) c') = v9 at *)
              refine hK.out _ _ ?_ (fun hHeld => ?_)
              · trivial
              clear hK K
              (try simp only [Act.put, List.setIfInBounds_toArray, List.set_cons_zero, List.set_cons_succ])
              refine wpAnyH_done (by kernel_rfl) ?_ _
              go_wp2_with fail
              go_roundw
              case rel => exact ⟨a', n + 1, c', _, by go_num, by omega, T3⟩
              case measure => simp [intOf]; omega
      · have hkn : n = N := by omega
        subst hkn
        have hli : ¬ (n : Int) < (n : Int) := by omega
        have RS := T.result hp hB (u0 := .int .i64 s) (u1 := .int .i64 g) (u2 := .slice A n c)
        have RR := ((T.2.2.2.2.1.set0 (.int .i64 s)).set1 (.int .i64 g)).set2 (.slice A n c)
        obtain ⟨n0, n1, n2, n3, n4, n5, n6⟩ := id T.1
        obtain ⟨r0, r1, r2, r3, r4, r5, r6⟩ := id T.2.2.2.2.1
        go_wp2_with fail
        clear n0 n1 n2 n3 n4 n5 n6
        clear r0 r1 r2 r3 r4 r5 r6
        generalize ((wr.setCell ⟨w.heap.size, 0, none⟩ (.int .i64 s)).setCell ⟨w.heap.size, 1, none⟩ (.int .i64 g)).setCell ⟨w.heap.size, 2, none⟩ (.slice A n c) = vz at *
        obtain ⟨r0, r1, r2, r3, r4, r5, r6⟩ := id RR
        exact bodyPost_ret (v := (.agg #[.int .i64 s, .int .i64 g, .slice A n c])) (by simp (maxDischargeDepth := 6) [results, Tryz.results42, go_sem, *]) rfl ⟨s, g, A, n, c, M, rfl, hN2.2, fun _ => hN2.1, RS⟩
  · go_upto_region 5 with fail
    have hN0 : (0 : Int) ≤ 12 := by omega
    have hN1 : 1 ≤ (12 : Int) ∧ (12 : Int) ≤ 12 := by omega
    clear hm ml
    have hN2 : 1 ≤ 12 ∧ 12 ≤ 12 := by omega
    clear hN0 hN1
    go_wp2_with fail
    go_loopw [5] (fun i wr => ∃ (A : Option Addr) (n c : Nat) (M : Nat → SlT), i = .int .i64 (n : Int) ∧ n ≤ 12 ∧ Pw w B p bt wr s g A n c M) (fun i _ => 12 - (intOf i).toNat)
    case atStart => exact ⟨none, 0, 0, fun _ => zSl, rfl, Nat.zero_le _, T⟩
    case round =>
      clear T
      obtain ⟨A, n, c, M, rfl, hn, T⟩ := hrel
      by_cases hlt : n < 12
      · have hli : (n : Int) < (12 : Int) := by omega
        obtain ⟨n0, n1, n2, n3, n4, n5, n6⟩ := id T.1
        go_upto_region 8 with fail
        refine wp_region_held_drew (S := (fun _ => True)) (by kernel_rfl) ?_ (fun hHeld => ?_)
        · trivial
        clear n0 n1 n2 n3 n4 n5 n6
        replace T := T.drew
        generalize wr.drew = vx at *
        (obtain ⟨n0, n1, n2, n3, n4, n5, n6⟩ := id T.1)
        refine wpAnyH_take (i := 0) (v := ?_) (by rw [List.getElem?_toArray]; rfl) (by kernel_rfl) (by kernel_rfl) (by kernel_rfl) (by intro _ _ _ h; exact h) (Or.inl ⟨by rfl, ?_⟩) (by assumption) ?_
        rotate_left
        · (intro w hSw; (try dsimp only at hSw); go_simp; all_goals with_reducible rfl)
        (try simp only [Act.put, List.setIfInBounds_toArray, List.set_cons_zero, List.set_cons_succ])
        refine wpAnyH_take (i := 2) (v := ?_) (by rw [List.getElem?_toArray]; rfl) (by kernel_rfl) (by kernel_rfl) (by kernel_rfl) (by intro _ _ _ h; exact h) (Or.inl ⟨by rfl, ?_⟩) (by assumption) ?_
        rotate_left
        · (intro w hSw; (try dsimp only at hSw); go_simp; all_goals with_reducible rfl)
        (try simp only [Act.put, List.setIfInBounds_toArray, List.set_cons_zero, List.set_cons_succ])
        refine wpAnyH_take (i := 4) (v := ?_) (by rw [List.getElem?_toArray]; rfl) (by kernel_rfl) (by kernel_rfl) (by kernel_rfl) (by intro _ _ _ h; exact h) (Or.inl ⟨by rfl, ?_⟩) (by assumption) ?_
        rotate_left
        · (intro w hSw; (try dsimp only at hSw); go_simp; all_goals with_reducible rfl)
        (try simp only [Act.put, List.setIfInBounds_toArray, List.set_cons_zero, List.set_cons_succ])
        refine wpAnyH_ready (rs := [1, 3]) (by kernel_rfl) (by simp) ?_
        refine (AllReadyH.cons (by rw [List.getElem?_toArray]; rfl) (fun K hK => ?_) (AllReadyH.cons (by rw [List.getElem?_toArray]; rfl) (fun K hK => ?_) AllReadyH.nil))
        · go_simp
          refine hK.out _ _ ?_ (fun hHeld => ?_)
          · trivial
          clear hK K
          (try simp only [Act.put, List.setIfInBounds_toArray, List.set_cons_zero, List.set_cons_succ])
          refine wpAnyH_ready (rs := [3]) (by kernel_rfl) (by simp) ?_
          refine (AllReadyH.cons (by rw [List.getElem?_toArray]; rfl) (fun K hK => ?_) AllReadyH.nil)
          go_simp
          refine (l1Below_any B p 4 _ T.2.2.1).mono ?_; rintro e vx1 ⟨x1, rfl, x1l, x1h, x1p, _, cc, bb⟩; (clear n0 n1 n2 n3 n4 n5 n6); (have x1q := x1p (by omega)); (replace T := T.but cc bb hp hbt); (clear cc bb x1p); (obtain ⟨n0, n1, n2, n3, n4, n5, n6⟩ := id T.1)
          (try go_wp2_with fail)
          refine hK.out _ _ ?_ (fun hHeld => ?_)
          · trivial
          clear hK K
          (try simp only [Act.put, List.setIfInBounds_toArray, List.set_cons_zero, List.set_cons_succ])
          refine wpAnyH_ready (rs := [5]) (by kernel_rfl) (by simp) ?_
          refine (AllReadyH.cons (by rw [List.getElem?_toArray]; rfl) (fun K hK => ?_) AllReadyH.nil)
          go_simp
          refine (l1Below_any B p 60 _ T.2.2.1).mono ?_; rintro e vx2 ⟨x2, rfl, x2l, x2h, x2p, _, cc, bb⟩; (clear n0 n1 n2 n3 n4 n5 n6); (have x2q := x2p (by omega)); (replace T := T.but cc bb hp hbt); (clear cc bb x2p); (obtain ⟨n0, n1, n2, n3, n4, n5, n6⟩ := id T.1)
          (try go_wp2_with fail)
          refine hK.out _ _ ?_ (fun hHeld => ?_)
          · trivial
          clear hK K
          (try simp only [Act.put, List.setIfInBounds_toArray, List.set_cons_zero, List.set_cons_succ])
          refine wpAnyH_take (i := 6) (v := ?_) (by rw [List.getElem?_toArray]; rfl) (by kernel_rfl) (by kernel_rfl) (by kernel_rfl) (by intro _ _ _ h; exact h) (Or.inl ⟨by rfl, ?_⟩) (by assumption) ?_
          rotate_left
          · (intro w hSw; (try dsimp only at hSw); go_simp; all_goals with_reducible rfl)
          (try simp only [Act.put, List.setIfInBounds_toArray, List.set_cons_zero, List.set_cons_succ])
          refine wpAnyH_take (i := 7) (v := ?_) (by rw [List.getElem?_toArray]; rfl) (by kernel_rfl) (by kernel_rfl) (by kernel_rfl) (by intro _ _ _ h; exact h) (Or.inl ⟨by rfl, ?_⟩) (by assumption) ?_
          rotate_left
          · (intro w hSw; (try dsimp only at hSw); go_simp; all_goals with_reducible rfl)
          (try simp only [Act.put, List.setIfInBounds_toArray, List.set_cons_zero, List.set_cons_succ])
          refine wpAnyH_ready (rs := [8]) (by kernel_rfl) (by simp) ?_
          refine (AllReadyH.cons (by rw [List.getElem?_toArray]; rfl) (fun K hK => ?_) AllReadyH.nil)
          go_simp
          (clear n0 n1 n2 n3 n4 n5 n6); (generalize IntKind.i64.wrap (1 + x2) = y2 at *); (have A6 := Below.nw vx2 (.cells #[.int .i64 x1, .int .i64 y2] 85)); (have HN : Hid (∀ j u, [Value.int .i64 x1, .int .i64 y2][j]? = some u → (vx2.alloc (.cells #[.int .i64 x1, .int .i64 y2] 85)).cell? ((⟨vx2.heap.size, 0, none⟩ : Addr).add j) = some u) := slot_at vx2 x1 y2); (replace T := T.below A6); (clear A6); (generalize vx2.heap.size = jb at *); (generalize vx2.alloc (.cells #[.int .i64 x1, .int .i64 y2] 85) = vx3 at *); (obtain ⟨n0, n1, n2, n3, n4, n5, n6⟩ := id T.1)
          refine hK.out _ _ ?_ (fun hHeld => ?_)
          · trivial
          clear hK K
          (try simp only [Act.put, List.setIfInBounds_toArray, List.set_cons_zero, List.set_cons_succ])
          refine wpAnyH_ready (rs := [9]) (by kernel_rfl) (by simp) ?_
          refine (AllReadyH.cons (by rw [List.getElem?_toArray]; rfl) (fun K hK => ?_) AllReadyH.nil)
          rw [if_pos (by rfl)]; (clear n0 n1 n2 n3 n4 n5 n6); (have hsz : w.heap.size + 1 ≤ vx3.heap.size := by have := T.1.1; omega); refine wp_append13 _ _ 30 rfl (w.heap.size + 1) 85 i0 (.agg #[.int .i64 0, .int .i64 0]) 2 16 Tryz.underlying30 hi hz0 hz1 hz2 rfl (by decide) _ _ _ rfl T.2.1 ⟨jb, 0, none⟩ 1 1 [.int .i64 x1, .int .i64 y2] rfl rfl HN.out (slot_one _ _) (by unfold maxLen; omega) (by omega) hsz ?_; intro v' wn hown' hgrow hfr; (rw [← srow_ins M n (x1, y2)] at hown'); (obtain ⟨a', c', rfl, _, _, _⟩ := ownF_src hown'); (have T3 := T.grow hp hB hbt hgrow hown' hfr); (have KQ := T.1.kept hgrow (fun e => T.2.2.2.2.2 bt e.symm rfl)); (clear hown' hgrow hfr HN T hsz); (obtain ⟨n0, n1, n2, n3, n4, n5, n6⟩ := id KQ)
          refine hK.out _ _ ?_ (fun hHeld => ?_)
          · trivial
          clear hK K
          (try simp only [Act.put, List.setIfInBounds_toArray, List.set_cons_zero, List.set_cons_succ])
          refine wpAnyH_take (i := 10) (v := ?_) (by rw [List.getElem?_toArray]; rfl) (by kernel_rfl) (by kernel_rfl) (by kernel_rfl) (by intro _ _ _ h; exact h) (Or.inl ⟨by rfl, ?_⟩) (by assumption) ?_
          rotate_left
          · (intro w hSw; (try dsimp only at hSw); go_simp; all_goals with_reducible rfl)
          (try simp only [Act.put, List.setIfInBounds_toArray, List.set_cons_zero, List.set_cons_succ])
          refine wpAnyH_ready (rs := [11]) (by kernel_rfl) (by simp) ?_
          refine (AllReadyH.cons (by rw [List.getElem?_toArray]; rfl) (fun K hK => ?_) AllReadyH.nil)
          go_simp
          (clear n0 n1 n2 n3 n4 n5 n6 KQ); (generalize wn.setCell ⟨bt, 2, none⟩ (.slice a' (n + 1) c') = v9 at *)
          refine hK.out _ _ ?_ (fun hHeld => ?_)
          · trivial
          clear hK K
          (try simp only [Act.put, List.setIfInBounds_toArray, List.set_cons_zero, List.set_cons_succ])
          refine wpAnyH_done (by kernel_rfl) ?_ _
          go_wp2_with fail
          go_roundw
          case rel => exact ⟨a', n + 1, c', _, by go_num, by omega, T3⟩
          case measure => simp [intOf]; omega
        · go_simp
          refine (l1Below_any B p 4 _ T.2.2.1).mono ?_; rintro e vx1 ⟨x1, rfl, x1l, x1h, x1p, _, cc, bb⟩; (clear n0 n1 n2 n3 n4 n5 n6); (have x1q := x1p (by omega)); (replace T := T.but cc bb hp hbt); (clear cc bb x1p); (obtain ⟨n0, n1, n2, n3, n4, n5, n6⟩ := id T.1)
          (try go_wp2_with fail)
          refine hK.out _ _ ?_ (fun hHeld => ?_)
          · trivial
          clear hK K
          (try simp only [Act.put, List.setIfInBounds_toArray, List.set_cons_zero, List.set_cons_succ])
          refine wpAnyH_ready (rs := [1, 5]) (by kernel_rfl) (by simp) ?_
          refine (AllReadyH.cons (by rw [List.getElem?_toArray]; rfl) (fun K hK => ?_) (AllReadyH.cons (by rw [List.getElem?_toArray]; rfl) (fun K hK => ?_) AllReadyH.nil))
          · go_simp
            refine hK.out _ _ ?_ (fun hHeld => ?_)
            · trivial
            clear hK K
            (try simp only [Act.put, List.setIfInBounds_toArray, List.set_cons_zero, List.set_cons_succ])
            refine wpAnyH_ready (rs := [5]) (by kernel_rfl) (by simp) ?_
            refine (AllReadyH.cons (by rw [List.getElem?_toArray]; rfl) (fun K hK => ?_) AllReadyH.nil)
            go_simp
            refine (l1Below_any B p 60 _ T.2.2.1).mono ?_; rintro e vx2 ⟨x2, rfl, x2l, x2h, x2p, _, cc, bb⟩; (clear n0 n1 n2 n3 n4 n5 n6); (have x2q := x2p (by omega)); (replace T := T.but cc bb hp hbt); (clear cc bb x2p); (obtain ⟨n0, n1, n2, n3, n4, n5, n6⟩ := id T.1)
            (try go_wp2_with fail)
            refine hK.out _ _ ?_ (fun hHeld => ?_)
            · trivial
            clear hK K
            (try simp only [Act.put, List.setIfInBounds_toArray, List.set_cons_zero, List.set_cons_succ])
            refine wpAnyH_take (i := 6) (v := ?_) (by rw [List.getElem?_toArray]; rfl) (by kernel_rfl) (by kernel_rfl) (by kernel_rfl) (by intro _ _ _ h; exact h) (Or.inl ⟨by rfl, ?_⟩) (by assumption) ?_
            rotate_left
            · (intro w hSw; (try dsimp only at hSw); go_simp; all_goals with_reducible rfl)
            (try simp only [Act.put, List.setIfInBounds_toArray, List.set_cons_zero, List.set_cons_succ])
            refine wpAnyH_take (i := 7) (v := ?_) (by rw [List.getElem?_toArray]; rfl) (by kernel_rfl) (by kernel_rfl) (by kernel_rfl) (by intro _ _ _ h; exact h) (Or.inl ⟨by rfl, ?_⟩) (by assumption) ?_
            rotate_left
            · (intro w hSw; (try dsimp only at hSw); go_simp; all_goals with_reducible rfl)
            (try simp only [Act.put, List.setIfInBounds_toArray, List.set_cons_zero, List.set_cons_succ])
            refine wpAnyH_ready (rs := [8]) (by kernel_rfl) (by simp) ?_
            refine (AllReadyH.cons (by rw [List.getElem?_toArray]; rfl) (fun K hK => ?_) AllReadyH.nil)
            go_simp
            (clear n0 n1 n2 n3 n4 n5 n6); (generalize IntKind.i64.wrap (1 + x2) = y2 at *); (have A6 := Below.nw vx2 (.cells #[.int .i64 x1, .int .i64 y2] 85)); (have HN : Hid (∀ j u, [Value.int .i64 x1, .int .i64 y2][j]? = some u → (vx2.alloc (.cells #[.int .i64 x1, .int .i64 y2] 85)).cell? ((⟨vx2.heap.size, 0, none⟩ : Addr).add j) = some u) := slot_at vx2 x1 y2); (replace T := T.below A6); (clear A6); (generalize vx2.heap.size = jb at *); (generalize vx2.alloc (.cells #[.int .i64 x1, .int .i64 y2] 85) = vx3 at *); (obtain ⟨n0, n1, n2, n3, n4, n5, n6⟩ := id T.1)
            refine hK.out _ _ ?_ (fun hHeld => ?_)
            · trivial
            clear hK K
            (try simp only [Act.put, List.setIfInBounds_toArray, List.set_cons_zero, List.set_cons_succ])
            refine wpAnyH_ready (rs := [9]) (by kernel_rfl) (by simp) ?_
            refine (AllReadyH.cons (by rw [List.getElem?_toArray]; rfl) (fun K hK => ?_) AllReadyH.nil)
            rw [if_pos (by rfl)]; (clear n0 n1 n2 n3 n4 n5 n6); (have hsz : w.heap.size + 1 ≤ vx3.heap.size := by have := T.1.1; omega); refine wp_append13 _ _ 30 rfl (w.heap.size + 1) 85 i0 (.agg #[.int .i64 0, .int .i64 0]) 2 16 Tryz.underlying30 hi hz0 hz1 hz2 rfl (by decide) _ _ _ rfl T.2.1 ⟨jb, 0, none⟩ 1 1 [.int .i64 x1, .int .i64 y2] rfl rfl HN.out (slot_one _ _) (by unfold maxLen; omega) (by omega) hsz ?_; intro v' wn hown' hgrow hfr; (rw [← srow_ins M n (x1, y2)] at hown'); (obtain ⟨a', c', rfl, _, _, _⟩ := ownF_src hown'); (have T3 := T.grow hp hB hbt hgrow hown' hfr); (have KQ := T.1.kept hgrow (fun e => T.2.2.2.2.2 bt e.symm rfl)); (clear hown' hgrow hfr HN T hsz); (obtain ⟨n0, n1, n2, n3, n4, n5, n6⟩ := id KQ)
            refine hK.out _ _ ?_ (fun hHeld => ?_)
            · trivial
            clear hK K
            (try simp only [Act.put, List.setIfInBounds_toArray, List.set_cons_zero, List.set_cons_succ])
            refine wpAnyH_take (i := 10) (v := ?_) (by rw [List.getElem?_toArray]; rfl) (by kernel_rfl) (by kernel_rfl) (by kernel_rfl) (by intro _ _ _ h; exact h) (Or.inl ⟨by rfl, ?_⟩) (by assumption) ?_
            rotate_left
            · (intro w hSw; (try dsimp only at hSw); go_simp; all_goals with_reducible rfl)
            (try simp only [Act.put, List.setIfInBounds_toArray, List.set_cons_zero, List.set_cons_succ])
            refine wpAnyH_ready (rs := [11]) (by kernel_rfl) (by simp) ?_
            refine (AllReadyH.cons (by rw [List.getElem?_toArray]; rfl) (fun K hK => ?_) AllReadyH.nil)
            go_simp
            (clear n0 n1 n2 n3 n4 n5 n6 KQ); (generalize wn.setCell ⟨bt, 2, none⟩ (.slice a' (n + 1) c') = v9 at *)
            refine hK.out _ _ ?_ (fun hHeld => ?_)
            · trivial
            clear hK K
            (try simp only [Act.put, List.setIfInBounds_toArray, List.set_cons_zero, List.set_cons_succ])
            refine wpAnyH_done (by kernel_rfl) ?_ _
            go_wp2_with fail
            go_roundw
            case rel => exact ⟨a', n + 1, c', _, by go_num, by omega, T3⟩
            case measure => simp [intOf]; omega
          · go_simp
            refine (l1Below_any B p 60 _ T.2.2.1).mono ?_; rintro e vx2 ⟨x2, rfl, x2l, x2h, x2p, _, cc, bb⟩; (clear n0 n1 n2 n3 n4 n5 n6); (have x2q := x2p (by omega)); (replace T := T.but cc bb hp hbt); (clear cc bb x2p); (obtain ⟨n0, n1, n2, n3, n4, n5, n6⟩ := id T.1)
            (try go_wp2_with fail)
            refine hK.out _ _ ?_ (fun hHeld => ?_)
            · trivial
            clear hK K
            (try simp only [Act.put, List.setIfInBounds_toArray, List.set_cons_zero, List.set_cons_succ])
            refine wpAnyH_take (i := 6) (v := ?_) (by rw [List.getElem?_toArray]; rfl) (by kernel_rfl) (by kernel_rfl) (by kernel_rfl) (by intro _ _ _ h; exact h) (Or.inl ⟨by rfl, ?_⟩) (by assumption) ?_
            rotate_left
            · (intro w hSw; (try dsimp only at hSw); go_simp; all_goals with_reducible rfl)
            (try simp only [Act.put, List.setIfInBounds_toArray, List.set_cons_zero, List.set_cons_succ])
            refine wpAnyH_take (i := 7) (v := ?_) (by rw [List.getElem?_toArray]; rfl) (by kernel_rfl) (by kernel_rfl) (by kernel_rfl) (by intro _ _ _ h; exact h) (Or.inl ⟨by rfl, ?_⟩) (by assumption) ?_
            rotate_left
            · (intro w hSw; (try dsimp only at hSw); go_simp; all_goals with_reducible rfl)
            (try simp only [Act.put, List.setIfInBounds_toArray, List.set_cons_zero, List.set_cons_succ])
            refine wpAnyH_ready (rs := [1, 8]) (by kernel_rfl) (by simp) ?_
            refine (AllReadyH.cons (by rw [List.getElem?_toArray]; rfl) (fun K hK => ?_) (AllReadyH.cons (by rw [List.getElem?_toArray]; rfl) (fun K hK => ?_) AllReadyH.nil))
            · go_simp
              refine hK.out _ _ ?_ (fun hHeld => ?_)
              · trivial
              clear hK K
              (try simp only [Act.put, List.setIfInBounds_toArray, List.set_cons_zero, List.set_cons_succ])
              refine wpAnyH_ready (rs := [8]) (by kernel_rfl) (by simp) ?_
              refine (AllReadyH.cons (by rw [List.getElem?_toArray]; rfl) (fun K hK => ?_) AllReadyH.nil)
              go_simp
              (clear n0 n1 n2 n3 n4 n5 n6); (generalize IntKind.i64.wrap (1 + x2) = y2 at *); (have A6 := Below.nw vx2 (.cells #[.int .i64 x1, .int .i64 y2] 85)); (have HN : Hid (∀ j u, [Value.int .i64 x1, .int .i64 y2][j]? = some u → (vx2.alloc (.cells #[.int .i64 x1, .int .i64 y2] 85)).cell? ((⟨vx2.heap.size, 0, none⟩ : Addr).add j) = some u) := slot_at vx2 x1 y2); (replace T := T.below A6); (clear A6); (generalize vx2.heap.size = jb at *); (generalize vx2.alloc (.cells #[.int .i64 x1, .int .i64 y2] 85) = vx3 at *); (obtain ⟨n0, n1, n2, n3, n4, n5, n6⟩ := id T.1)
              refine hK.out _ _ ?_ (fun hHeld => ?_)
              · trivial
              clear hK K
              (try simp only [Act.put, List.setIfInBounds_toArray, List.set_cons_zero, List.set_cons_succ])
              refine wpAnyH_ready (rs := [9]) (by kernel_rfl) (by simp) ?_
              refine (AllReadyH.cons (by rw [List.getElem?_toArray]; rfl) (fun K hK => ?_) AllReadyH.nil)
              rw [if_pos (by rfl)]; (clear n0 n1 n2 n3 n4 n5 n6); (have hsz : w.heap.size + 1 ≤ vx3.heap.size := by have := T.1.1; omega); refine wp_append13 _ _ 30 rfl (w.heap.size + 1) 85 i0 (.agg #[.int .i64 0, .int .i64 0]) 2 16 Tryz.underlying30 hi hz0 hz1 hz2 rfl (by decide) _ _ _ rfl T.2.1 ⟨jb, 0, none⟩ 1 1 [.int .i64 x1, .int .i64 y2] rfl rfl HN.out (slot_one _ _) (by unfold maxLen; omega) (by omega) hsz ?_; intro v' wn hown' hgrow hfr; (rw [← srow_ins M n (x1, y2)] at hown'); (obtain ⟨a', c', rfl, _, _, _⟩ := ownF_src hown'); (have T3 := T.grow hp hB hbt hgrow hown' hfr); (have KQ := T.1.kept hgrow (fun e => T.2.2.2.2.2 bt e.symm rfl)); (clear hown' hgrow hfr HN T hsz); (obtain ⟨n0, n1, n2, n3, n4, n5, n6⟩ := id KQ)
              refine hK.out _ _ ?_ (fun hHeld => ?_)
              · trivial
              clear hK K
              (try simp only [Act.put, List.setIfInBounds_toArray, List.set_cons_zero, List.set_cons_succ])
              refine wpAnyH_take (i := 10) (v := ?_) (by rw [List.getElem?_toArray]; rfl) (by kernel_rfl) (by kernel_rfl) (by kernel_rfl) (by intro _ _ _ h; exact h) (Or.inl ⟨by rfl, ?_⟩) (by assumption) ?_
              rotate_left
              · (intro w hSw; (try dsimp only at hSw); go_simp; all_goals with_reducible rfl)
              (try simp only [Act.put, List.setIfInBounds_toArray, List.set_cons_zero, List.set_cons_succ])
              refine wpAnyH_ready (rs := [11]) (by kernel_rfl) (by simp) ?_
              refine (AllReadyH.cons (by rw [List.getElem?_toArray]; rfl) (fun K hK => ?_) AllReadyH.nil)
              go_simp
              (clear n0 n1 n2 n3 n4 n5 n6 KQ); (generalize wn.setCell ⟨bt, 2, none⟩ (.slice a' (n + 1) c') = v9 at *)
              refine hK.out _ _ ?_ (fun hHeld => ?_)
              · trivial
              clear hK K
              (try simp only [Act.put, List.setIfInBounds_toArray, List.set_cons_zero, List.set_cons_succ])
              refine wpAnyH_done (by kernel_rfl) ?_ _
              go_wp2_with fail
              go_roundw
              case rel => exact ⟨a', n + 1, c', _, by go_num, by omega, T3⟩
              case measure => simp [intOf]; omega
            · go_simp
              (clear n0 n1 n2 n3 n4 n5 n6); (generalize IntKind.i64.wrap (1 + x2) = y2 at *); (have A6 := Below.nw vx2 (.cells #[.int .i64 x1, .int .i64 y2] 85)); (have HN : Hid (∀ j u, [Value.int .i64 x1, .int .i64 y2][j]? = some u → (vx2.alloc (.cells #[.int .i64 x1, .int .i64 y2] 85)).cell? ((⟨vx2.heap.size, 0, none⟩ : Addr).add j) = some u) := slot_at vx2 x1 y2); (replace T := T.below A6); (clear A6); (generalize vx2.heap.size = jb at *); (generalize vx2.alloc (.cells #[.int .i64 x1, .int .i64 y2] 85) = vx3 at *); (obtain ⟨n0, n1, n2, n3, n4, n5, n6⟩ := id T.1)
              refine hK.out _ _ ?_ (fun hHeld => ?_)
              · trivial
              clear hK K
              (try simp only [Act.put, List.setIfInBounds_toArray, List.set_cons_zero, List.set_cons_succ])
              refine wpAnyH_ready (rs := [1]) (by kernel_rfl) (by simp) ?_
              refine (AllReadyH.cons (by rw [List.getElem?_toArray]; rfl) (fun K hK => ?_) AllReadyH.nil)
              go_simp
              refine hK.out _ _ ?_ (fun hHeld => ?_)
              · trivial
              clear hK K
              (try simp only [Act.put, List.setIfInBounds_toArray, List.set_cons_zero, List.set_cons_succ])
              refine wpAnyH_ready (rs := [9]) (by kernel_rfl) (by simp) ?_
              refine (AllReadyH.cons (by rw [List.getElem?_toArray]; rfl) (fun K hK => ?_) AllReadyH.nil)
              rw [if_pos (by rfl)]; (clear n0 n1 n2 n3 n4 n5 n6); (have hsz : w.heap.size + 1 ≤ vx3.heap.size := by have := T.1.1; omega); refine wp_append13 _ _ 30 rfl (w.heap.size + 1) 85 i0 (.agg #[.int .i64 0, .int .i64 0]) 2 16 Tryz.underlying30 hi hz0 hz1 hz2 rfl (by decide) _ _ _ rfl T.2.1 ⟨jb, 0, none⟩ 1 1 [.int .i64 x1, .int .i64 y2] rfl rfl HN.out (slot_one _ _) (by unfold maxLen; omega) (by omega) hsz ?_; intro v' wn hown' hgrow hfr; (rw [← srow_ins M n (x1, y2)] at hown'); (obtain ⟨a', c', rfl, _, _, _⟩ := ownF_src hown'); (have T3 := T.grow hp hB hbt hgrow hown' hfr); (have KQ := T.1.kept hgrow (fun e => T.2.2.2.2.2 bt e.symm rfl)); (clear hown' hgrow hfr HN T hsz); (obtain ⟨n0, n1, n2, n3, n4, n5, n6⟩ := id KQ)
              refine hK.out _ _ ?_ (fun hHeld => ?_)
              · trivial
              clear hK K
              (try simp only [Act.put, List.setIfInBounds_toArray, List.set_cons_zero, List.set_cons_succ])
              refine wpAnyH_take (i := 10) (v := ?_) (by rw [List.getElem?_toArray]; rfl) (by kernel_rfl) (by kernel_rfl) (by kernel_rfl) (by intro _ _ _ h; exact h) (Or.inl ⟨by rfl, ?_⟩) (by assumption) ?_
              rotate_left
              · (intro w hSw; (try dsimp only at hSw); go_simp; all_goals with_reducible rfl)
              (try simp only [Act.put, List.setIfInBounds_toArray, List.set_cons_zero, List.set_cons_succ])
              refine wpAnyH_ready (rs := [11]) (by kernel_rfl) (by simp) ?_
              refine (AllReadyH.cons (by rw [List.getElem?_toArray]; rfl) (fun K hK => ?_) AllReadyH.nil)
              go_simp
              (clear n0 n1 n2 n3 n4 n5 n6 KQ); (generalize wn.setCell ⟨bt, 2, none⟩ (.slice a' (n + 1) c') = v9 at *)
              refine hK.out _ _ ?_ (fun hHeld => ?_)
              · trivial
              clear hK K
              (try simp only [Act.put, List.setIfInBounds_toArray, List.set_cons_zero, List.set_cons_succ])
              refine wpAnyH_done (by kernel_rfl) ?_ _
              go_wp2_with fail
              go_roundw
              case rel => exact ⟨a', n + 1, c', _, by go_num, by omega, T3⟩
              case measure => simp [intOf]; omega
      · have hkn : n = 12 := by omega
        subst hkn
        have hli : ¬ ((12 : Nat) : Int) < (12 : Int) := by omega
        have RS := T.result hp hB (u0 := .int .i64 s) (u1 := .int .i64 g) (u2 := .slice A 12 c)
        have RR := ((T.2.2.2.2.1.set0 (.int .i64 s)).set1 (.int .i64 g)).set2 (.slice A 12 c)
        obtain ⟨n0, n1, n2, n3, n4, n5, n6⟩ := id T.1
        obtain ⟨r0, r1, r2, r3, r4, r5, r6⟩ := id T.2.2.2.2.1
        go_wp2_with fail
        clear n0 n1 n2 n3 n4 n5 n6
        clear r0 r1 r2 r3 r4 r5 r6
        generalize ((wr.setCell ⟨w.heap.size, 0, none⟩ (.int .i64 s)).setCell ⟨w.heap.size, 1, none⟩ (.int .i64 g)).setCell ⟨w.heap.size, 2, none⟩ (.slice A 12 c) = vz at *
        obtain ⟨r0, r1, r2, r3, r4, r5, r6⟩ := id RR
        exact bodyPost_ret (v := (.agg #[.int .i64 s, .int .i64 g, .slice A 12 c])) (by simp (maxDischargeDepth := 6) [results, Tryz.results42, go_sem, *]) rfl ⟨s, g, A, 12, c, M, rfl, hN2.2, fun _ => hN2.1, RS⟩
end Go.Proofs.YtcakhfobkbgfoaaGreatDoor
namespace Go.Proofs.YtcakhfobkbgfoaaGreatDoor
open Go.RowKit
set_option linter.unusedVariables false
theorem srow_at0 {M : Nat → SlT} {n : Nat} (hn : 1 ≤ n) : (srow M n)[0]? = some (.int .i64 (M 0).1) := by
  rw [srow, List.getElem?_map, List.getElem?_range (by omega)]
  rfl
theorem srow_at1 {M : Nat → SlT} {n : Nat} (hn : 1 ≤ n) : (srow M n)[1]? = some (.int .i64 (M 0).2) := by
  rw [srow, List.getElem?_map, List.getElem?_range (by omega)]
  rfl
theorem srow_set {M : Nat → SlT} {n j : Nat} {q : SlT} {u : Value} (hn : 1 ≤ n) (hj : j < 2) (hu : MCSlot q j = u) (ho : MCSlot q (1 - j) = MCSlot (M 0) (1 - j)) : (srow M n).set j u = srow (updS M q) n := by
  apply List.ext_getElem?
  intro i
  rw [List.getElem?_set, srow_len]
  by_cases hi : i < n * 2
  · rw [srow, srow, List.getElem?_map, List.getElem?_map, List.getElem?_range hi]
    by_cases e : j = i
    · subst e
      rw [if_pos rfl, if_pos hi]
      show some u = some (MCSlot (updS M q (j / 2)) (j % 2))
      rw [show j / 2 = 0 by omega, show j % 2 = j by omega, updS, if_pos rfl, hu]
    · rw [if_neg e]
      show some (MCSlot (M (i / 2)) (i % 2)) = some (MCSlot (updS M q (i / 2)) (i % 2))
      by_cases h0 : i / 2 = 0
      · rw [h0, updS, if_pos rfl, show i % 2 = 1 - j by omega, ho]
      · rw [updS, if_neg h0]
  · by_cases e : j = i
    · omega
    · rw [if_neg e, List.getElem?_eq_none (by rw [srow_len]; omega), List.getElem?_eq_none (by rw [srow_len]; omega)]
def lenAt (w : World) (j : Nat) : Nat := match w.cell? ⟨j, 2, none⟩ with | some (.slice _ n _) => n | _ => 0
theorem lenAt_is {w : World} {j : Nat} {a : Option Addr} {n c : Nat} (h : w.cell? ⟨j, 2, none⟩ = some (.slice a n c)) : lenAt w j = n := by unfold lenAt; rw [h]
section
variable {w0 w : World} {B p bt gb : Nat} {s g : Int} {n c : Nat} {M : Nat → SlT}
theorem Pw.putAt {j : Nat} {u : Value} {q : SlT} (h : Pw w0 B p bt w s g (some ⟨gb, 0, none⟩) n c M) (hp : p < w0.heap.size) (hn : 1 ≤ n) (hj : j < 2) (hgb : gb ≠ bt) (hu : MCSlot q j = u) (ho : MCSlot q (1 - j) = MCSlot (M 0) (1 - j)) : Pw w0 B p bt (w.setCell ⟨gb, j, none⟩ u) s g (some ⟨gb, 0, none⟩) n c (updS M q) := by
  have hl := World.ownsRow.lt h.2.1 gb (by simp [Value.ownBlock])
  have hO := (World.ownsRow.stored h.2.1 j u).1
  rw [srow_set hn hj hu ho] at hO
  have hc := h.2.2.1.lt
  have hb := But.one13 w gb j u
  have hpw := h.2.2.2.1
  exact ⟨h.1.but hb (Ne.symm hgb), hO, h.2.2.1.below13 (hb.below (B := w0.heap.size + 1) (by omega) (by omega)) (by omega), h.2.2.2.1.new13 hb (by omega), h.2.2.2.2.1.but hb (by omega), h.2.2.2.2.2⟩
theorem Pw.put0 (h : Pw w0 B p bt w s g (some ⟨gb, 0, none⟩) n c M) (hp : p < w0.heap.size) (hn : 1 ≤ n) (hgb : gb ≠ bt) (y : Int) : Pw w0 B p bt (w.setCell ⟨gb, 0, none⟩ (.int .i64 y)) s g (some ⟨gb, 0, none⟩) n c (updS M (y, (M 0).2)) := h.putAt hp hn (by decide) hgb rfl rfl
theorem Pw.put1 (h : Pw w0 B p bt w s g (some ⟨gb, 0, none⟩) n c M) (hp : p < w0.heap.size) (hn : 1 ≤ n) (hgb : gb ≠ bt) (y : Int) : Pw w0 B p bt (w.setCell ⟨gb, 1, none⟩ (.int .i64 y)) s g (some ⟨gb, 0, none⟩) n c (updS M ((M 0).1, y)) := h.putAt hp hn (by decide) hgb rfl rfl
end
set_option maxRecDepth 100000 in
set_option maxHeartbeats 16000000 in
theorem l13DrawAny_any (B p : Nat) (w : World) (hcur : CurOk w B p) :
    Calls Tryz.prog 19 #[.pointer (some ⟨p, 0, none⟩)] w fun e w' => PlanDrawn 13 w B p e w' := by
  obtain ⟨i0, hi, hz0, hz1, hz2⟩ := info13_parts
  have hpl := hcur.lt
  have hp : p < w.heap.size := hpl.1
  have hB : B ≤ p := hpl.2
  have hpw : w.heap.size ≠ p := by omega
  have A1 := Below.nw w (.cells #[.int .i64 0, .int .i64 0, .slice none 0 0] 32)
  have R := Tx3.new w (.int .i64 0) (.int .i64 0) (.slice none 0 0) 32
  have cc0 := hcur.below A1
  have b0 : But p w _ := But.of_below A1
  have hsz : (w.alloc (.cells #[.int .i64 0, .int .i64 0, .slice none 0 0] 32)).heap.size = w.heap.size + 1 := by simp
  clear A1 hcur hpl
  go_enter Tryz.func19, Tryz.ntmps19
  go_upto_region 1 with fail
  generalize w.alloc (.cells #[.int .i64 0, .int .i64 0, .slice none 0 0] 32) = v at *
  go_wp2_with fail
  refine (l13DrawPlan_any B p _ cc0).mono ?_
  rintro e v1 ⟨s, g, A, n, c, M, rfl, hn12, hn1, OW, cc, bb⟩
  replace hn1 := hn1 rfl
  rw [hsz] at OW
  replace R := R.but bb hpw
  replace b0 := b0.trans bb
  clear bb cc0 hsz
  have A2 := Below.nw v1 (.cells #[.int .i64 s, .int .i64 g, .slice A n c] 32)
  have T : Pw w B p v1.heap.size (v1.alloc (.cells #[.int .i64 s, .int .i64 g, .slice A n c] 32)) s g A n c M := ⟨Tx3.new v1 _ _ _ _, own_belK' OW A2, cc.below A2, b0.trans (But.of_below A2), R.below A2, fun q hq => Nat.ne_of_lt (World.ownsRow.lt OW q hq).2⟩
  have hbt : w.heap.size < v1.heap.size := R.1
  clear A2 b0 R cc OW
  go_upto_region 2 with fail
  generalize v1.heap.size = bt at *
  generalize v1.alloc (.cells #[.int .i64 s, .int .i64 g, .slice A n c] 32) = v2 at *
  go_wp2_with fail
  refine (l1Below_any B p 25 _ T.2.2.1).mono ?_; rintro e v3 ⟨r, rfl, rl, rh, rp, rz, cc, bb⟩; replace T := T.but cc bb hp hbt; clear cc bb rz
  clear rp rh rl
  by_cases h0 : r = 0
  · subst h0
    go_wp2_with fail
    refine (l2DrawCount_any B p _ T.2.2.1).mono ?_
    rintro e v4 ⟨y, rfl, cc, bb⟩
    replace T := T.but cc bb hp hbt
    clear cc bb
    have T2 := T.set0 hp hB hbt y
    obtain ⟨n0, n1, n2, n3, n4, n5, n6⟩ := id T.1
    go_upto_region 16 with fail
    clear n0 n1 n2 n3 n4 n5 n6
    generalize v4.setCell ⟨bt, 0, none⟩ (.int .i64 y) = v5 at *
    clear T
    have T := T2
    clear T2
    have RS := T.result hp hB (u0 := .int .i64 y) (u1 := .int .i64 g) (u2 := .slice A n c)
    have RR := ((T.2.2.2.2.1.set0 (.int .i64 y)).set1 (.int .i64 g)).set2 (.slice A n c)
    obtain ⟨n0, n1, n2, n3, n4, n5, n6⟩ := id T.1
    obtain ⟨r0, r1, r2, r3, r4, r5, r6⟩ := id T.2.2.2.2.1
    go_wp2_with fail
    clear n0 n1 n2 n3 n4 n5 n6
    clear r0 r1 r2 r3 r4 r5 r6
    generalize ((v5.setCell ⟨w.heap.size, 0, none⟩ (.int .i64 y)).setCell ⟨w.heap.size, 1, none⟩ (.int .i64 g)).setCell ⟨w.heap.size, 2, none⟩ (.slice A n c) = vz at *
    obtain ⟨r0, r1, r2, r3, r4, r5, r6⟩ := id RR
    exact bodyPost_ret (v := (.agg #[.int .i64 y, .int .i64 g, .slice A n c])) (by simp (maxDischargeDepth := 6) [results, Tryz.results19, go_sem, *]) rfl ⟨y, g, A, n, c, M, rfl, by omega, fun q => absurd q (by decide), RS⟩
  by_cases h1 : r = 1
  · subst h1
    go_wp2_with fail
    have hpk := pickLit B p v3 [-1, 100000, 100001] T.2.2.1 (by simp) (by simp); simp only [List.map_cons, List.map_nil, List.length_cons, List.length_nil, Nat.zero_add, Nat.reduceAdd] at hpk; refine hpk.mono ?_; clear hpk; rintro e v4 ⟨y, rfl, cc, bb⟩
    replace T := T.but cc bb hp hbt
    clear cc bb
    have T2 := T.set1 hp hB hbt y
    obtain ⟨n0, n1, n2, n3, n4, n5, n6⟩ := id T.1
    go_upto_region 16 with fail
    clear n0 n1 n2 n3 n4 n5 n6
    generalize v4.setCell ⟨bt, 1, none⟩ (.int .i64 y) = v5 at *
    clear T
    have T := T2
    clear T2
    have RS := T.result hp hB (u0 := .int .i64 s) (u1 := .int .i64 y) (u2 := .slice A n c)
    have RR := ((T.2.2.2.2.1.set0 (.int .i64 s)).set1 (.int .i64 y)).set2 (.slice A n c)
    obtain ⟨n0, n1, n2, n3, n4, n5, n6⟩ := id T.1
    obtain ⟨r0, r1, r2, r3, r4, r5, r6⟩ := id T.2.2.2.2.1
    go_wp2_with fail
    clear n0 n1 n2 n3 n4 n5 n6
    clear r0 r1 r2 r3 r4 r5 r6
    generalize ((v5.setCell ⟨w.heap.size, 0, none⟩ (.int .i64 s)).setCell ⟨w.heap.size, 1, none⟩ (.int .i64 y)).setCell ⟨w.heap.size, 2, none⟩ (.slice A n c) = vz at *
    obtain ⟨r0, r1, r2, r3, r4, r5, r6⟩ := id RR
    exact bodyPost_ret (v := (.agg #[.int .i64 s, .int .i64 y, .slice A n c])) (by simp (maxDischargeDepth := 6) [results, Tryz.results19, go_sem, *]) rfl ⟨s, y, A, n, c, M, rfl, by omega, fun q => absurd q (by decide), RS⟩
  by_cases h2 : r = 2
  · subst h2
    obtain ⟨gb, rfl, hgb⟩ : ∃ gb, A = some ⟨gb, 0, none⟩ ∧ gb ≠ bt := by
      rcases T.2.1.2 with ⟨he, h0⟩ | ⟨gb, cap, cur, he, _⟩
      · omega
      · simp at he
        obtain ⟨rfl, rfl⟩ := he
        exact ⟨gb, rfl, T.2.2.2.2.2 gb (by simp [Value.ownBlock])⟩
    have hn1i : 0 < n := hn1
    obtain ⟨n0, n1, n2, n3, n4, n5, n6⟩ := id T.1
    go_upto_region 8 with fail
    refine wp_region_held_drew (S := (fun w' => w'.cell? ⟨bt, 2, none⟩ = some (.slice (some ⟨gb, 0, none⟩) n c))) (by kernel_rfl) ?_ (fun hHeld => ?_)
    · first | exact n3 | (simp (maxDischargeDepth := 6) [go_sem, *]; done)
    clear n0 n1 n2 n3 n4 n5 n6
    replace T := T.drew
    generalize v3.drew = vx at *
    (obtain ⟨n0, n1, n2, n3, n4, n5, n6⟩ := id T.1)
    refine wpAnyH_take (i := 0) (v := ?_) (by rw [List.getElem?_toArray]; rfl) (by kernel_rfl) (by kernel_rfl) (by kernel_rfl) (by intro _ _ _ h; exact h) (Or.inl ⟨by rfl, ?_⟩) (by assumption) ?_
    rotate_left
    · (intro w hSw; (try dsimp only at hSw); go_simp; all_goals with_reducible rfl)
    (try simp only [Act.put, List.setIfInBounds_toArray, List.set_cons_zero, List.set_cons_succ])
    refine wpAnyH_take (i := 1) (v := ?_) (by rw [List.getElem?_toArray]; rfl) (by kernel_rfl) (by kernel_rfl) (by kernel_rfl) (by intro _ _ _ h; exact h) (Or.inl ⟨by rfl, ?_⟩) (by assumption) ?_
    rotate_left
    · (intro w hSw; (try dsimp only at hSw); go_simp; all_goals with_reducible rfl)
    (try simp only [Act.put, List.setIfInBounds_toArray, List.set_cons_zero, List.set_cons_succ])
    refine wpAnyH_take (i := 2) (v := ?_) (by rw [List.getElem?_toArray]; rfl) (by kernel_rfl) (by kernel_rfl) (by kernel_rfl) (by intro _ _ _ h; exact h) (Or.inl ⟨by rfl, ?_⟩) (by assumption) ?_
    rotate_left
    · (intro w hSw; (try dsimp only at hSw); go_simp; all_goals with_reducible rfl)
    (try simp only [Act.put, List.setIfInBounds_toArray, List.set_cons_zero, List.set_cons_succ])
    refine wpAnyH_ready (rs := [3]) (by kernel_rfl) (by simp) ?_
    refine (AllReadyH.cons (by rw [List.getElem?_toArray]; rfl) (fun K hK => ?_) AllReadyH.nil)
    go_simp
    skip
    refine hK.out _ _ ?_ (fun hHeld => ?_)
    · first | exact n3 | (simp (maxDischargeDepth := 6) [go_sem, *]; done)
    clear hK K
    (try simp only [Act.put, List.setIfInBounds_toArray, List.set_cons_zero, List.set_cons_succ])
    refine wpAnyH_ready (rs := [4]) (by kernel_rfl) (by simp) ?_
    refine (AllReadyH.cons (by rw [List.getElem?_toArray]; rfl) (fun K hK => ?_) AllReadyH.nil)
    go_simp
    (clear n0 n1 n2 n3 n4 n5 n6); have hpk := pickLit B p vx [-1, 8, 7] T.2.2.1 (by simp) (by simp); simp only [List.map_cons, List.map_nil, List.length_cons, List.length_nil, Nat.zero_add, Nat.reduceAdd] at hpk; refine hpk.mono ?_; clear hpk; rintro e v4 ⟨y, rfl, cc, bb⟩; (replace T := T.but cc bb hp hbt); (clear cc bb); (have FE := World.ownsRow.frozenAt T.2.1 0); (have hce : v4.cell? ⟨gb, 0, none⟩ = some (.int .i64 (M 0).1) := (World.ownsRow.cellAt T.2.1 0 (by omega)).trans (srow_at0 hn1)); (obtain ⟨n0, n1, n2, n3, n4, n5, n6⟩ := id T.1)
    (try go_wp2_with fail)
    refine hK.out _ _ ?_ (fun hHeld => ?_)
    · first | exact n3 | (simp (maxDischargeDepth := 6) [go_sem, *]; done)
    clear hK K
    (try simp only [Act.put, List.setIfInBounds_toArray, List.set_cons_zero, List.set_cons_succ])
    refine wpAnyH_take (i := 5) (v := ?_) (by rw [List.getElem?_toArray]; rfl) (by kernel_rfl) (by kernel_rfl) (by kernel_rfl) (by intro _ _ _ h; exact h) (Or.inl ⟨by rfl, ?_⟩) (by assumption) ?_
    rotate_left
    · (intro w hSw; (try dsimp only at hSw); go_simp; all_goals with_reducible rfl)
    (try simp only [Act.put, List.setIfInBounds_toArray, List.set_cons_zero, List.set_cons_succ])
    refine wpAnyH_take (i := 6) (v := ?_) (by rw [List.getElem?_toArray]; rfl) (by kernel_rfl) (by kernel_rfl) (by kernel_rfl) (by intro _ _ _ h; exact h) (Or.inl ⟨by rfl, ?_⟩) (by assumption) ?_
    rotate_left
    · (intro w hSw; (try dsimp only at hSw); go_simp; all_goals with_reducible rfl)
    (try simp only [Act.put, List.setIfInBounds_toArray, List.set_cons_zero, List.set_cons_succ])
    refine wpAnyH_ready (rs := [7]) (by kernel_rfl) (by simp) ?_
    refine (AllReadyH.cons (by rw [List.getElem?_toArray]; rfl) (fun K hK => ?_) AllReadyH.nil)
    go_simp
    (clear n0 n1 n2 n3 n4 n5 n6); (clear FE hce); (have T2 := T.put0 hp hn1 hgb y); (generalize v4.setCell ⟨gb, 0, none⟩ (.int .i64 y) = v5 at *); (obtain ⟨n0, n1, n2, n3, n4, n5, n6⟩ := id T2.1)
    refine hK.out _ _ ?_ (fun hHeld => ?_)
    · first | exact n3 | (simp (maxDischargeDepth := 6) [go_sem, *]; done)
    clear hK K
    (try simp only [Act.put, List.setIfInBounds_toArray, List.set_cons_zero, List.set_cons_succ])
    refine wpAnyH_done (by kernel_rfl) ?_ _
    clear n0 n1 n2 n3 n4 n5 n6 T
    have T := T2
    clear T2
    have RS := T.result hp hB (u0 := .int .i64 s) (u1 := .int .i64 g) (u2 := .slice (some ⟨gb, 0, none⟩) n c)
    have RR := ((T.2.2.2.2.1.set0 (.int .i64 s)).set1 (.int .i64 g)).set2 (.slice (some ⟨gb, 0, none⟩) n c)
    obtain ⟨n0, n1, n2, n3, n4, n5, n6⟩ := id T.1
    obtain ⟨r0, r1, r2, r3, r4, r5, r6⟩ := id T.2.2.2.2.1
    go_wp2_with fail
    clear n0 n1 n2 n3 n4 n5 n6
    clear r0 r1 r2 r3 r4 r5 r6
    generalize ((v5.setCell ⟨w.heap.size, 0, none⟩ (.int .i64 s)).setCell ⟨w.heap.size, 1, none⟩ (.int .i64 g)).setCell ⟨w.heap.size, 2, none⟩ (.slice (some ⟨gb, 0, none⟩) n c) = vz at *
    obtain ⟨r0, r1, r2, r3, r4, r5, r6⟩ := id RR
    exact bodyPost_ret (v := (.agg #[.int .i64 s, .int .i64 g, .slice (some ⟨gb, 0, none⟩) n c])) (by simp (maxDischargeDepth := 6) [results, Tryz.results19, go_sem, *]) rfl ⟨s, g, (some ⟨gb, 0, none⟩), n, c, (updS M (y, (M 0).2)), rfl, by omega, fun q => absurd q (by decide), RS⟩
  by_cases h3 : r = 3
  · subst h3
    obtain ⟨gb, rfl, hgb⟩ : ∃ gb, A = some ⟨gb, 0, none⟩ ∧ gb ≠ bt := by
      rcases T.2.1.2 with ⟨he, h0⟩ | ⟨gb, cap, cur, he, _⟩
      · omega
      · simp at he
        obtain ⟨rfl, rfl⟩ := he
        exact ⟨gb, rfl, T.2.2.2.2.2 gb (by simp [Value.ownBlock])⟩
    have hn1i : 0 < n := hn1
    obtain ⟨n0, n1, n2, n3, n4, n5, n6⟩ := id T.1
    go_upto_region 10 with fail
    refine wp_region_held_drew (S := (fun w' => w'.cell? ⟨bt, 2, none⟩ = some (.slice (some ⟨gb, 0, none⟩) n c))) (by kernel_rfl) ?_ (fun hHeld => ?_)
    · first | exact n3 | (simp (maxDischargeDepth := 6) [go_sem, *]; done)
    clear n0 n1 n2 n3 n4 n5 n6
    replace T := T.drew
    generalize v3.drew = vx at *
    (obtain ⟨n0, n1, n2, n3, n4, n5, n6⟩ := id T.1)
    refine wpAnyH_take (i := 0) (v := ?_) (by rw [List.getElem?_toArray]; rfl) (by kernel_rfl) (by kernel_rfl) (by kernel_rfl) (by intro _ _ _ h; exact h) (Or.inl ⟨by rfl, ?_⟩) (by assumption) ?_
    rotate_left
    · (intro w hSw; (try dsimp only at hSw); go_simp; all_goals with_reducible rfl)
    (try simp only [Act.put, List.setIfInBounds_toArray, List.set_cons_zero, List.set_cons_succ])
    refine wpAnyH_take (i := 1) (v := ?_) (by rw [List.getElem?_toArray]; rfl) (by kernel_rfl) (by kernel_rfl) (by kernel_rfl) (by intro _ _ _ h; exact h) (Or.inl ⟨by rfl, ?_⟩) (by assumption) ?_
    rotate_left
    · (intro w hSw; (try dsimp only at hSw); go_simp; all_goals with_reducible rfl)
    (try simp only [Act.put, List.setIfInBounds_toArray, List.set_cons_zero, List.set_cons_succ])
    refine wpAnyH_take (i := 2) (v := ?_) (by rw [List.getElem?_toArray]; rfl) (by kernel_rfl) (by kernel_rfl) (by kernel_rfl) (by intro _ _ _ h; exact h) (Or.inl ⟨by rfl, ?_⟩) (by assumption) ?_
    rotate_left
    · (intro w hSw; (try dsimp only at hSw); go_simp; all_goals with_reducible rfl)
    (try simp only [Act.put, List.setIfInBounds_toArray, List.set_cons_zero, List.set_cons_succ])
    refine wpAnyH_ready (rs := [3]) (by kernel_rfl) (by simp) ?_
    refine (AllReadyH.cons (by rw [List.getElem?_toArray]; rfl) (fun K hK => ?_) AllReadyH.nil)
    go_simp
    skip
    refine hK.out _ _ ?_ (fun hHeld => ?_)
    · first | exact n3 | (simp (maxDischargeDepth := 6) [go_sem, *]; done)
    clear hK K
    (try simp only [Act.put, List.setIfInBounds_toArray, List.set_cons_zero, List.set_cons_succ])
    refine wpAnyH_ready (rs := [4]) (by kernel_rfl) (by simp) ?_
    refine (AllReadyH.cons (by rw [List.getElem?_toArray]; rfl) (fun K hK => ?_) AllReadyH.nil)
    go_simp
    (clear n0 n1 n2 n3 n4 n5 n6); have hpk := pickLit B p vx [0, 1000000, 1000001] T.2.2.1 (by simp) (by simp); simp only [List.map_cons, List.map_nil, List.length_cons, List.length_nil, Nat.zero_add, Nat.reduceAdd] at hpk; refine hpk.mono ?_; clear hpk; rintro e v4 ⟨y, rfl, cc, bb⟩; (replace T := T.but cc bb hp hbt); (clear cc bb); (have FE := World.ownsRow.frozenAt T.2.1 1); (have hce : v4.cell? ⟨gb, 1, none⟩ = some (.int .i64 (M 0).2) := (World.ownsRow.cellAt T.2.1 1 (by omega)).trans (srow_at1 hn1)); (obtain ⟨n0, n1, n2, n3, n4, n5, n6⟩ := id T.1)
    (try go_wp2_with fail)
    refine hK.out _ _ ?_ (fun hHeld => ?_)
    · first | exact n3 | (simp (maxDischargeDepth := 6) [go_sem, *]; done)
    clear hK K
    (try simp only [Act.put, List.setIfInBounds_toArray, List.set_cons_zero, List.set_cons_succ])
    refine wpAnyH_take (i := 5) (v := ?_) (by rw [List.getElem?_toArray]; rfl) (by kernel_rfl) (by kernel_rfl) (by kernel_rfl) (by intro _ _ _ h; exact h) (Or.inl ⟨by rfl, ?_⟩) (by assumption) ?_
    rotate_left
    · (intro w hSw; (try dsimp only at hSw); go_simp; all_goals with_reducible rfl)
    (try simp only [Act.put, List.setIfInBounds_toArray, List.set_cons_zero, List.set_cons_succ])
    refine wpAnyH_take (i := 6) (v := ?_) (by rw [List.getElem?_toArray]; rfl) (by kernel_rfl) (by kernel_rfl) (by kernel_rfl) (by intro _ _ _ h; exact h) (Or.inl ⟨by rfl, ?_⟩) (by assumption) ?_
    rotate_left
    · (intro w hSw; (try dsimp only at hSw); go_simp; all_goals with_reducible rfl)
    (try simp only [Act.put, List.setIfInBounds_toArray, List.set_cons_zero, List.set_cons_succ])
    refine wpAnyH_ready (rs := [7]) (by kernel_rfl) (by simp) ?_
    refine (AllReadyH.cons (by rw [List.getElem?_toArray]; rfl) (fun K hK => ?_) AllReadyH.nil)
    go_simp
    (clear n0 n1 n2 n3 n4 n5 n6); (clear FE hce); (have T2 := T.put1 hp hn1 hgb y); (generalize v4.setCell ⟨gb, 1, none⟩ (.int .i64 y) = v5 at *); (obtain ⟨n0, n1, n2, n3, n4, n5, n6⟩ := id T2.1)
    refine hK.out _ _ ?_ (fun hHeld => ?_)
    · first | exact n3 | (simp (maxDischargeDepth := 6) [go_sem, *]; done)
    clear hK K
    (try simp only [Act.put, List.setIfInBounds_toArray, List.set_cons_zero, List.set_cons_succ])
    refine wpAnyH_done (by kernel_rfl) ?_ _
    clear n0 n1 n2 n3 n4 n5 n6 T
    have T := T2
    clear T2
    have RS := T.result hp hB (u0 := .int .i64 s) (u1 := .int .i64 g) (u2 := .slice (some ⟨gb, 0, none⟩) n c)
    have RR := ((T.2.2.2.2.1.set0 (.int .i64 s)).set1 (.int .i64 g)).set2 (.slice (some ⟨gb, 0, none⟩) n c)
    obtain ⟨n0, n1, n2, n3, n4, n5, n6⟩ := id T.1
    obtain ⟨r0, r1, r2, r3, r4, r5, r6⟩ := id T.2.2.2.2.1
    go_wp2_with fail
    clear n0 n1 n2 n3 n4 n5 n6
    clear r0 r1 r2 r3 r4 r5 r6
    generalize ((v5.setCell ⟨w.heap.size, 0, none⟩ (.int .i64 s)).setCell ⟨w.heap.size, 1, none⟩ (.int .i64 g)).setCell ⟨w.heap.size, 2, none⟩ (.slice (some ⟨gb, 0, none⟩) n c) = vz at *
    obtain ⟨r0, r1, r2, r3, r4, r5, r6⟩ := id RR
    exact bodyPost_ret (v := (.agg #[.int .i64 s, .int .i64 g, .slice (some ⟨gb, 0, none⟩) n c])) (by simp (maxDischargeDepth := 6) [results, Tryz.results19, go_sem, *]) rfl ⟨s, g, (some ⟨gb, 0, none⟩), n, c, (updS M ((M 0).1, y)), rfl, by omega, fun q => absurd q (by decide), RS⟩
  by_cases h4 : r = 4
  · subst h4
    have T2 := T.empty hp hB hbt (fun _ => zSl)
    obtain ⟨n0, n1, n2, n3, n4, n5, n6⟩ := id T.1
    go_upto_region 16 with fail
    clear n0 n1 n2 n3 n4 n5 n6
    generalize v3.setCell ⟨bt, 2, none⟩ (.slice none 0 0) = v5 at *
    clear T
    have T := T2
    clear T2
    have RS := T.result hp hB (u0 := .int .i64 s) (u1 := .int .i64 g) (u2 := .slice none 0 0)
    have RR := ((T.2.2.2.2.1.set0 (.int .i64 s)).set1 (.int .i64 g)).set2 (.slice none 0 0)
    obtain ⟨n0, n1, n2, n3, n4, n5, n6⟩ := id T.1
    obtain ⟨r0, r1, r2, r3, r4, r5, r6⟩ := id T.2.2.2.2.1
    go_wp2_with fail
    clear n0 n1 n2 n3 n4 n5 n6
    clear r0 r1 r2 r3 r4 r5 r6
    generalize ((v5.setCell ⟨w.heap.size, 0, none⟩ (.int .i64 s)).setCell ⟨w.heap.size, 1, none⟩ (.int .i64 g)).setCell ⟨w.heap.size, 2, none⟩ (.slice none 0 0) = vz at *
    obtain ⟨r0, r1, r2, r3, r4, r5, r6⟩ := id RR
    exact bodyPost_ret (v := (.agg #[.int .i64 s, .int .i64 g, .slice none 0 0])) (by simp (maxDischargeDepth := 6) [results, Tryz.results19, go_sem, *]) rfl ⟨s, g, none, 0, 0, (fun _ => zSl), rfl, by omega, fun q => absurd q (by decide), RS⟩
  by_cases h5 : r = 5
  · subst h5
    go_wp2_with fail
    have hn13 : n ≤ 13 := by omega
    clear hn12 hn1
    go_loopw [] (fun wr => ∃ (A : Option Addr) (n c : Nat) (M : Nat → SlT), n ≤ 13 ∧ Pw w B p bt wr s g A n c M) (fun wr => 13 - lenAt wr bt)
    case atStart => exact ⟨A, n, c, M, hn13, T⟩
    case round =>
      clear T hn13
      obtain ⟨A, n, c, M, hn13, T⟩ := hrel
      have hlen : lenAt wr bt = n := lenAt_is T.1.2.2.2.1
      by_cases hlt : n ≤ 12
      · have hli : (n : Int) ≤ (12 : Int) := by omega
        have own1 := World.ownsRow.alloc T.2.1 (.cells #[.int .i64 0, .int .i64 1] 85)
        have A6 := Below.nw wr (.cells #[.int .i64 0, .int .i64 1] 85)
        have T2 := T.below A6
        have HN2 : Hid (∀ j u, [Value.int .i64 0, .int .i64 1][j]? = some u → (wr.alloc (.cells #[.int .i64 0, .int .i64 1] 85)).cell? ((⟨wr.heap.size, 0, none⟩ : Addr).add j) = some u) := slot_at wr 0 1
        have hs6 : w.heap.size + 1 ≤ (wr.alloc (.cells #[.int .i64 0, .int .i64 1] 85)).heap.size := by have := A6.size; have := T.1.1; omega
        obtain ⟨n0, n1, n2, n3, n4, n5, n6⟩ := id T.1
        go_wp2_with (at_builtin; refine wpList_append_new rfl _ _ 30 rfl (w.heap.size + 1) 85 i0 (.agg #[.int .i64 0, .int .i64 0]) 2 16 Tryz.underlying30 hi hz0 hz1 hz2 rfl (by decide) _ _ _ rfl own1 ⟨wr.heap.size, 0, none⟩ 1 1 [.int .i64 0, .int .i64 1] rfl rfl HN2.out (slot_one _ _) (by unfold maxLen; omega) (by omega) hs6 ?_; intro vq wq hown2 hgrow hfr; (rw [← srow_ins M n (0, 1)] at hown2); (obtain ⟨a3, c3, rfl, _, _, _⟩ := ownF_src hown2); (have T3 := T2.grow hp hB hbt hgrow hown2 hfr); (have KQ := T2.1.kept hgrow (fun e => T2.2.2.2.2.2 bt e.symm rfl)); clear n0 n1 n2 n3 n4 n5 n6; (clear hown2 hgrow hfr own1 HN2 A6 T2 hs6); (obtain ⟨n0, n1, n2, n3, n4, n5, n6⟩ := id KQ))
        go_roundw
        case rel => exact ⟨a3, n + 1, c3, _, by omega, T3⟩
        case measure => rw [hlen, lenAt_is T3.1.2.2.2.1]; omega
      · have hli : ¬ (n : Int) ≤ (12 : Int) := by omega
        have RS := T.result hp hB (u0 := .int .i64 s) (u1 := .int .i64 g) (u2 := .slice A n c)
        have RR := ((T.2.2.2.2.1.set0 (.int .i64 s)).set1 (.int .i64 g)).set2 (.slice A n c)
        obtain ⟨n0, n1, n2, n3, n4, n5, n6⟩ := id T.1
        obtain ⟨r0, r1, r2, r3, r4, r5, r6⟩ := id T.2.2.2.2.1
        go_wp2_with fail
        clear n0 n1 n2 n3 n4 n5 n6
        clear r0 r1 r2 r3 r4 r5 r6
        generalize ((wr.setCell ⟨w.heap.size, 0, none⟩ (.int .i64 s)).setCell ⟨w.heap.size, 1, none⟩ (.int .i64 g)).setCell ⟨w.heap.size, 2, none⟩ (.slice A n c) = vz at *
        obtain ⟨r0, r1, r2, r3, r4, r5, r6⟩ := id RR
        exact bodyPost_ret (v := (.agg #[.int .i64 s, .int .i64 g, .slice A n c])) (by simp (maxDischargeDepth := 6) [results, Tryz.results19, go_sem, *]) rfl ⟨s, g, A, n, c, M, rfl, by omega, fun q => absurd q (by decide), RS⟩
  · go_upto_region 16 with fail
    have RS := T.result hp hB (u0 := .int .i64 s) (u1 := .int .i64 g) (u2 := .slice A n c)
    have RR := ((T.2.2.2.2.1.set0 (.int .i64 s)).set1 (.int .i64 g)).set2 (.slice A n c)
    obtain ⟨n0, n1, n2, n3, n4, n5, n6⟩ := id T.1
    obtain ⟨r0, r1, r2, r3, r4, r5, r6⟩ := id T.2.2.2.2.1
    go_wp2_with fail
    clear n0 n1 n2 n3 n4 n5 n6
    clear r0 r1 r2 r3 r4 r5 r6
    generalize ((v3.setCell ⟨w.heap.size, 0, none⟩ (.int .i64 s)).setCell ⟨w.heap.size, 1, none⟩ (.int .i64 g)).setCell ⟨w.heap.size, 2, none⟩ (.slice A n c) = vz at *
    obtain ⟨r0, r1, r2, r3, r4, r5, r6⟩ := id RR
    exact bodyPost_ret (v := (.agg #[.int .i64 s, .int .i64 g, .slice A n c])) (by simp (maxDischargeDepth := 6) [results, Tryz.results19, go_sem, *]) rfl ⟨s, g, A, n, c, M, rfl, by omega, fun q => absurd q (by decide), RS⟩
end Go.Proofs.YtcakhfobkbgfoaaGreatDoor
namespace Go.Proofs.YtcakhfobkbgfoaaGreatDoor
open Go.RowKit
set_option linter.unusedVariables false
theorem pick5 (B p : Nat) (w : World) (a b c d e : Int) (hcur : CurOk w B p) :
    Calls Tryz.prog 20 #[.pointer (some ⟨p, 0, none⟩), .slice (some ⟨w.heap.size, 0, none⟩) 5 5] (w.alloc (.cells #[.int .i64 a, .int .i64 b, .int .i64 c, .int .i64 d, .int .i64 e] 3)) fun e w' => ∃ v : Int, e = .returned (.int .i64 v) ∧ CurOk w' B p ∧ But p w w' := by
  have h := pickLit B p w [a, b, c, d, e] hcur (by simp) (by simp)
  simp only [List.map_cons, List.map_nil, List.length_cons, List.length_nil, Nat.zero_add, Nat.reduceAdd] at h
  exact h
end Go.Proofs.YtcakhfobkbgfoaaGreatDoor
namespace Go.Proofs.YtcakhfobkbgfoaaGreatDoor
open Go.RowKit
set_option linter.unusedVariables false
theorem BoxL.but {p k : Nat} {w w' : World} {a : Bool} {b c d : Int} (h : BoxL w k a b c d) (hw : But p w w') (hk : k ≠ p) : BoxL w' k a b c d := by
  obtain ⟨h0, h1, h2, h3, h4, f1, f2, f3, f4⟩ := h
  exact ⟨Nat.lt_of_lt_of_le h0 hw.2.2.2.1, by rw [hw.cell h0 hk]; exact h1, by rw [hw.cell h0 hk]; exact h2, by rw [hw.cell h0 hk]; exact h3, by rw [hw.cell h0 hk]; exact h4, by rw [hw.frozen h0 hk]; exact f1, by rw [hw.frozen h0 hk]; exact f2, by rw [hw.frozen h0 hk]; exact f3, by rw [hw.frozen h0 hk]; exact f4⟩
theorem Bx.butD {p k : Nat} {w w' : World} {x y : Int} (h : Bx w k x y) (hw : But p w w') (hk : k ≠ p) : Bx w' k x y :=
  ⟨Nat.lt_of_lt_of_le h.1 hw.2.2.2.1, by rw [hw.cell h.1 hk]; exact h.2.1, by rw [hw.cell h.1 hk]; exact h.2.2.1, by rw [hw.frozen h.1 hk]; exact h.2.2.2.1, by rw [hw.frozen h.1 hk]; exact h.2.2.2.2⟩
theorem CurOk.setL {w : World} {B p k : Nat} (h : CurOk w B p) (hk : k ≠ p) (hB : B ≤ k) (a : Bool) (b c d : Int) : CurOk (setL w k a b c d) B p := (((h.setOther hk hB _ _).setOther hk hB _ _).setOther hk hB _ _).setOther hk hB _ _
theorem But.setL {p k : Nat} {u w : World} (h : But p u w) (hk : u.heap.size ≤ k) (a : Bool) (b c d : Int) : But p u (setL w k a b c d) := (((h.setNew hk _ _).setNew hk _ _).setNew hk _ _).setNew hk _ _
theorem BoxL.setK {k : Nat} {w : World} {a : Bool} {b c d : Int} (h : BoxL w k a b c d) (a' : Bool) : BoxL (w.setCell ⟨k, 0, none⟩ (.bool a')) k a' b c d := by
  obtain ⟨h0, h1, h2, h3, h4, f1, f2, f3, f4⟩ := h
  exact ⟨by simpa using h0, World.cell?_setCell_same _ _ _ h1, by rw [World.cell?_setCell_other _ _ _ _ (by simp)]; exact h2, by rw [World.cell?_setCell_other _ _ _ _ (by simp)]; exact h3, by rw [World.cell?_setCell_other _ _ _ _ (by simp)]; exact h4, by simpa using f1, by simpa using f2, by simpa using f3, by simpa using f4⟩
theorem BoxL.setA {k : Nat} {w : World} {a : Bool} {b c d : Int} (h : BoxL w k a b c d) (d' : Int) : BoxL (w.setCell ⟨k, 3, none⟩ (.int .i64 d')) k a b c d' := by
  obtain ⟨h0, h1, h2, h3, h4, f1, f2, f3, f4⟩ := h
  exact ⟨by simpa using h0, by rw [World.cell?_setCell_other _ _ _ _ (by simp)]; exact h1, by rw [World.cell?_setCell_other _ _ _ _ (by simp)]; exact h2, by rw [World.cell?_setCell_other _ _ _ _ (by simp)]; exact h3, World.cell?_setCell_same _ _ _ h4, by simpa using f1, by simpa using f2, by simpa using f3, by simpa using f4⟩
set_option maxHeartbeats 3200000 in
theorem l6DrawLocal_any (B p : Nat) (w : World) (hcur : CurOk w B p) :
    Calls Tryz.prog 15 #[.pointer (some ⟨p, 0, none⟩)] w fun e w' => ∃ (kn : Bool) (lo hi a : Int), e = .returned (.agg #[.bool kn, .int .i64 lo, .int .i64 hi, .int .i64 a]) ∧ CurOk w' B p ∧ But p w w' := by
  have hpl := hcur.lt
  have hpw : w.heap.size ≠ p := by omega
  have hBw : B ≤ w.heap.size := by omega
  have A1 := Below.al w (.cells #[.bool false, .int .i64 0, .int .i64 0, .int .i64 0] 27)
  have R0 := BoxL.new w false 0 0 0 27
  go_enter Tryz.func15, Tryz.ntmps15
  go_wp2_with fail
  refine (l1Once_any B p 9 _ (by exact hcur.below A1)).mono ?_
  rintro e w1 ⟨o, rfl, w1c, w1b⟩
  have R1 := R0.but w1b hpw
  have b1 : But p w w1 := (But.of_below A1).trans w1b
  clear R0 A1 w1b
  cases o
  · go_wp2_with fail
    refine (l1DrawIval_any B p _ w1c).mono ?_
    rintro e w2 ⟨lo, hi, rfl, w2c, w2b⟩
    have R2 := R1.but w2b hpw
    have b2 := b1.trans w2b
    clear R1 b1 w2b w1c
    go_wp2_with fail
    refine (l1Below_any B p 400 _ w2c).mono ?_
    rintro e w3 ⟨x, rfl, xl, xh, xp, xz, w3c, w3b⟩
    have R3 := R2.but w3b hpw
    have b3 := b2.trans w3b
    clear R2 b2 w3b w2c xp xz
    have q3 := w3c.lt
    have hk : w3.heap.size ≠ p := by omega
    have A3 := Below.al w3 (.cells #[.bool true, .int .i64 lo, .int .i64 hi, .int .i64 x] 27)
    have N3 := BoxL.new w3 true lo hi x 27
    go_wp2_with fail
    refine (l1Below_any B p 25 _ (by exact w3c.below A3)).mono ?_
    rintro e w4 ⟨z, rfl, zl, zh, zp, zz, w4c, w4b⟩
    have R4 := (R3.below A3).but w4b hpw
    have N4 := N3.but w4b hk
    have b4 : But p w w4 := (b3.alloc _).trans w4b
    have hwk : w.heap.size < w3.heap.size := R3.1
    have hwk' : w.heap.size ≤ w3.heap.size := by omega
    have hBk : B ≤ w3.heap.size := by omega
    have n1 : w.heap.size ≠ w3.heap.size := by omega
    have n2 : w3.heap.size ≠ w.heap.size := by omega
    clear zp zz R3 N3 b3 w4b A3 w3c hcur
    cases hz0 : (z == 0)
    · cases hz1 : (z == 1)
      · cases hz2 : (z == 2)
        · obtain ⟨g0, g1, g2, g3, g4, g5, g6, g7, g8⟩ := R4
          obtain ⟨m0, m1, m2, m3, m4, m5, m6, m7, m8⟩ := N4
          go_wp2_with fail
          exact bodyPost_ret (v := .agg #[.bool true, .int .i64 lo, .int .i64 hi, .int .i64 x]) (by simp (maxDischargeDepth := 6) [results, Tryz.results15, go_sem, *]) rfl ⟨_, _, _, _, rfl, CurOk.setL w4c hpw hBw _ _ _ _, But.setL b4 (Nat.le_refl _) _ _ _ _⟩
        · have R5 := R4.setLO n2 false 0 0 1
          have N5 := N4.set false 0 0 1
          have b5 := But.setL b4 hwk' false 0 0 1
          have c5 := CurOk.setL w4c hk hBk false 0 0 1
          obtain ⟨g0, g1, g2, g3, g4, g5, g6, g7, g8⟩ := R4
          obtain ⟨m0, m1, m2, m3, m4, m5, m6, m7, m8⟩ := N4
          go_wp2_with fail
          exact bodyPost_ret (v := .agg #[.bool false, .int .i64 0, .int .i64 0, .int .i64 1]) (by simp (maxDischargeDepth := 6) [results, Tryz.results15, go_sem, *]) rfl ⟨_, _, _, _, rfl, CurOk.setL c5 hpw hBw _ _ _ _, But.setL b5 (Nat.le_refl _) _ _ _ _⟩
      · have R5 := R4.setO n2 0 (.bool false)
        have N5 := N4.setK false
        have b5 := b4.setNew hwk' 0 (.bool false)
        have c5 := w4c.setOther hk hBk 0 (.bool false)
        obtain ⟨g0, g1, g2, g3, g4, g5, g6, g7, g8⟩ := R4
        obtain ⟨m0, m1, m2, m3, m4, m5, m6, m7, m8⟩ := N4
        go_wp2_with fail
        exact bodyPost_ret (v := .agg #[.bool false, .int .i64 lo, .int .i64 hi, .int .i64 x]) (by simp (maxDischargeDepth := 6) [results, Tryz.results15, go_sem, *]) rfl ⟨_, _, _, _, rfl, CurOk.setL c5 hpw hBw _ _ _ _, But.setL b5 (Nat.le_refl _) _ _ _ _⟩
    · go_wp2_with fail
      refine (l2DrawCount_any B p _ w4c).mono ?_
      rintro e w5 ⟨v, rfl, w5c, w5b⟩
      have R5 := R4.but w5b hpw
      have N5 := N4.but w5b hk
      have b5 := (b4.trans w5b).setNew hwk' 3 (.int .i64 v)
      have c5 := w5c.setOther hk hBk 3 (.int .i64 v)
      clear R4 N4 b4 w5b w4c w5c
      obtain ⟨g0, g1, g2, g3, g4, g5, g6, g7, g8⟩ := R5
      obtain ⟨m0, m1, m2, m3, m4, m5, m6, m7, m8⟩ := N5
      go_wp2_with fail
      exact bodyPost_ret (v := .agg #[.bool true, .int .i64 lo, .int .i64 hi, .int .i64 v]) (by simp (maxDischargeDepth := 6) [results, Tryz.results15, go_sem, *]) rfl ⟨_, _, _, _, rfl, CurOk.setL c5 hpw hBw _ _ _ _, But.setL b5 (Nat.le_refl _) _ _ _ _⟩
  · obtain ⟨g0, g1, g2, g3, g4, g5, g6, g7, g8⟩ := R1
    go_wp2_with fail
    exact bodyPost_ret (v := .agg #[.bool false, .int .i64 0, .int .i64 0, .int .i64 0]) (by simp (maxDischargeDepth := 6) [results, Tryz.results15, go_sem, *]) rfl ⟨_, _, _, _, rfl, CurOk.setL w1c hpw hBw _ _ _ _, But.setL b1 (Nat.le_refl _) _ _ _ _⟩
set_option maxHeartbeats 3200000 in
theorem l6DrawCount_any (B p : Nat) (a : Int) (w : World) (hcur : CurOk w B p) :
    Calls Tryz.prog 22 #[.pointer (some ⟨p, 0, none⟩), .int .i64 a] w fun e w' => ∃ x : Int, e = .returned (.int .i64 x) ∧ CurOk w' B p ∧ But p w w' := by
  go_enter Tryz.func22, Tryz.ntmps22
  go_wp2_with fail
  refine (l1Once_any B p 15 _ hcur).mono ?_
  rintro e w1 ⟨o, rfl, w1c, w1b⟩
  cases o
  · cases hd : decide (1000000000000 < a)
    · go_wp2_with fail
      refine (l1Below_any B p 300 _ w1c).mono ?_
      rintro e w2 ⟨x, rfl, xl, xh, xp, xz, w2c, w2b⟩
      clear xp xz
      go_wp2_with fail
      refine (l1Below_any B p 9 _ w2c).mono ?_
      rintro e w3 ⟨y, rfl, yl, yh, yp, yz, w3c, w3b⟩
      clear yp yz
      go_wp2_with fail
      go_ret
      exact ⟨_, rfl, w3c, (w1b.trans w2b).trans w3b⟩
    · go_wp2_with fail
      go_ret
      exact ⟨_, rfl, w1c, w1b⟩
  · go_wp2_with fail
    refine (l2DrawCount_any B p _ w1c).mono ?_
    rintro e w2 ⟨x, rfl, w2c, w2b⟩
    go_wp2_with fail
    go_ret
    exact ⟨_, rfl, w2c, w1b.trans w2b⟩
end Go.Proofs.YtcakhfobkbgfoaaGreatDoor
namespace Go.Proofs.YtcakhfobkbgfoaaGreatDoor
open Go.RowKit
set_option linter.unusedVariables false
/- How long a drawn frame is. -/
set_option maxHeartbeats 4000000 in
theorem l14DrawLong_any (B p : Nat) (w : World) (hcur : CurOk w B p) :
    Calls Tryz.prog 21 #[.pointer (some ⟨p, 0, none⟩)] w fun e w' => ∃ x : Int, e = .returned (.int .i64 x) ∧ CurOk w' B p ∧ But p w w' := by
  go_enter Tryz.func21, Tryz.ntmps21
  go_wp2_with fail
  refine (l1Once_any B p 15 _ hcur).mono ?_
  rintro e v1 ⟨q, rfl, nc, b1⟩
  cases q
  · go_wp2_with fail
    refine (l1Below_any B p 20 _ nc).mono ?_
    rintro e v2 ⟨x, rfl, _, _, _, _, nd, b2⟩
    have b3 := b1.trans b2
    go_wp2_with fail
    go_ret
    exact ⟨_, rfl, nd, b3⟩
  · go_wp2_with fail
    refine (l2DrawCount_any B p _ nc).mono ?_
    rintro e v2 ⟨x, rfl, nd, b2⟩
    have b3 := b1.trans b2
    go_wp2_with fail
    go_ret
    exact ⟨x, rfl, nd, b3⟩
theorem pick2 (B p : Nat) (w : World) (a b : Int) (hcur : CurOk w B p) :
    Calls Tryz.prog 20 #[.pointer (some ⟨p, 0, none⟩), .slice (some ⟨w.heap.size, 0, none⟩) 2 2] (w.alloc (.cells #[.int .i64 a, .int .i64 b] 3)) fun e w' => ∃ v : Int, e = .returned (.int .i64 v) ∧ CurOk w' B p ∧ But p w w' := by
  have h := pickLit B p w [a, b] hcur (by simp) (by simp)
  simp only [List.map_cons, List.map_nil, List.length_cons, List.length_nil, Nat.zero_add, Nat.reduceAdd] at h
  exact h

end Go.Proofs.YtcakhfobkbgfoaaGreatDoor
