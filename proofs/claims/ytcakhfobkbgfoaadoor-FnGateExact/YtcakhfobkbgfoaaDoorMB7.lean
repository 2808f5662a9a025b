/- Numbers of the gate. An append of one element to a row of ones own. OwnersOf in the specification. PlanMoved in the specification. Plans beside the cursor; the draw of a plan. The draw of any plan. -/
import Derived.Test.YtcakhfobkbgfoaaDoorMB2
import Derived.Test.YtcakhfobkbgfoaaDoorMB6
import Derived.WalkKit
import Derived.WalkSpells
import Derived.WalkLawsBesides
import Derived.Deep.RegionHeld
import Derived.Test.YtcakhfobkbgfoaaDoorMB3
import Derived.Deep.DeepAppendRoom
import Derived.Deep.RegionHeld3
import Derived.Laws.OwnMore
namespace Go.Proofs.YtcakhfobkbgfoaaDoor
open Go.RowKit
set_option linter.unusedVariables false
theorem mo_parts5 {n d x : Int} (h : moB n d x = true) : okD n d = true ∧ okT x = true ∧ okT (dnI (x * d) (d - n)) = true ∧ moT n d x = dnI (x * d) (d - n) := by
  have e : moT n d x = dnI (x * d) (d - n) := sel_t h _
  unfold moB rB at h
  simp only [Bool.and_eq_true] at h
  exact ⟨h.1.1, h.1.2, h.2, e⟩
/- What may take most takes no less than its counts; what takes least no more. -/
theorem le_mo {n d x : Int} (h : moB n d x = true) : leB n d x = true ∧ 0 ≤ leT n d x ∧ leT n d x ≤ x ∧ x ≤ moT n d x ∧ moT n d x ≤ 1000000000000 := by
  obtain ⟨h1, h2, h3, h4⟩ := mo_parts5 h
  obtain ⟨d1, d2, d3, d4⟩ := okD_t h1
  have t := okT_t h2
  have hb := okT_t h3
  have k1 : upI (x * d) (d + n) ≤ x := by
    have hx : x * d ≤ x * (d + n) := Int.mul_le_mul_of_nonneg_left (by omega) t.1
    have : (x * d + (d + n) - 1) / (d + n) < x + 1 := by
      refine Int.ediv_lt_of_lt_mul (by omega) ?_
      rw [Int.add_mul, Int.one_mul]
      omega
    unfold upI
    omega
  have k2 : x ≤ dnI (x * d) (d - n) := by
    refine (Int.le_ediv_iff_mul_le (by omega)).2 ?_
    exact Int.mul_le_mul_of_nonneg_left (by omega) t.1
  have k3 : 0 ≤ upI (x * d) (d + n) := (upI_bd (Int.mul_nonneg t.1 (by omega)) (by omega)).1
  have hl : leB n d x = true := by
    unfold leB rB
    rw [h1, h2, show okT (upI (x * d) (d + n)) = true from decide_eq_true ⟨k3, by omega⟩]
    rfl
  have e : leT n d x = upI (x * d) (d + n) := sel_t hl _
  rw [e, h4]
  exact ⟨hl, k3, k1, k2, hb.2⟩
theorem gs_parts {lo hi n d x : Int} (h : gsB lo hi n d x = true) : moB n d x = true ∧ 1 ≤ x ∧ gsL lo hi n d x = lo ∧ gsH lo hi n d x = hi + moT n d x ∧ okI lo hi = true ∧ okI lo (hi + moT n d x) = true := by
  have e1 : gsL lo hi n d x = lo := by unfold gsL; rw [sel_t h]; omega
  have e2 : gsH lo hi n d x = hi + moT n d x := by unfold gsH; rw [sel_t h]
  unfold gsB spreadB at h
  simp only [Bool.and_eq_true, Bool.not_eq_true', decide_eq_false_iff_not] at h
  obtain ⟨⟨h1, h2⟩, ⟨h3, _⟩, h5⟩ := h
  rw [Int.sub_zero] at h5
  exact ⟨h1, by omega, e1, e2, h3, h5⟩
theorem is_parts {s g : Int} {M : Nat → SlT} {n : Nat} {o f t : Int} (h : isB s g M n o f t = true) :
    isI s g M n o f t = saI s g M n f ∧ isK s g M n o f t = saK s g M n f ∧ saB s g M n f = true ∧ (M (saI s g M n f).toNat).1 = o ∧ f ≤ t ∧ t ≤ ocH s g M n (saI s g M n f) (saK s g M n f) := by
  have e1 : isI s g M n o f t = saI s g M n f := by unfold isI; rw [h]
  have e2 : isK s g M n o f t = saK s g M n f := by unfold isK; rw [h]
  unfold isB at h
  simp only [Bool.and_eq_true, Bool.not_eq_true', decide_eq_false_iff_not, beq_iff_eq] at h
  exact ⟨e1, e2, h.1, h.2.1, by omega, by omega⟩
theorem is_of {s g : Int} {M : Nat → SlT} {n : Nat} {o f t : Int} (h1 : saB s g M n f = true) (h2 : (M (saI s g M n f).toNat).1 = o) (h3 : f ≤ t) (h4 : t ≤ ocH s g M n (saI s g M n f) (saK s g M n f)) : isB s g M n o f t = true := by
  unfold isB
  rw [h1, beq_iff_eq.2 h2, decide_eq_false (by omega), decide_eq_false (by omega)]
  rfl
theorem ga_parts {kn : Bool} {lo hi n d x s g : Int} {M : Nat → SlT} {m : Nat} {o : Int} (e : gaG kn lo hi n d x s g M m o = true) : kn = true ∧ gaP kn lo hi n d x (plB s g M m) o = true ∧ gsB lo hi n d x = true ∧ isB s g M m o (gsL lo hi n d x) (gsH lo hi n d x) = true := by
  unfold gaG at e
  simp only [Bool.and_eq_true] at e
  exact ⟨e.2.1, e.1, e.2.2.1, e.2.2.2⟩
/- What the gate lets go lies in the occurrence that is told, whatever time of the interval it is, however long it takes. -/
theorem gate_truth {kn : Bool} {lo hi n d x s g : Int} {M : Nat → SlT} {m : Nat} {o : Int} (e : gaG kn lo hi n d x s g M m o = true) :
    ∃ i : Nat, gaI kn lo hi n d x s g M m o = (i : Int) ∧ i < m ∧ ocB s g M m i (gaK kn lo hi n d x s g M m o) = true ∧ (M i).1 = o ∧ ocL s g M m i (gaK kn lo hi n d x s g M m o) ≤ lo ∧ hi + moT n d x ≤ ocH s g M m i (gaK kn lo hi n d x s g M m o) ∧ ocH s g M m i (gaK kn lo hi n d x s g M m o) = ocL s g M m i (gaK kn lo hi n d x s g M m o) + (M i).2 ∧ okI lo hi = true ∧ moB n d x = true ∧ 1 ≤ x := by
  obtain ⟨_, e1, e2⟩ := ga_go e
  obtain ⟨_, _, hs, hi'⟩ := ga_parts e
  obtain ⟨s1, s2, s3, s4, s5, s6⟩ := gs_parts hs
  rw [s3, s4] at e1 e2 hi'
  obtain ⟨i1, i2, i3, i4, i5, i6⟩ := is_parts hi'
  obtain ⟨a1, a2, a3⟩ := sa_holds i3
  obtain ⟨b1, b2, b3, b4, b5, b6, b7⟩ := oc_parts a1
  refine ⟨(saI s g M m lo).toNat, by rw [e1, i1, b3], b2, ?_⟩
  rw [e2, i2, b3]
  refine ⟨a1, i4, a2, i6, by omega, s5, s1, s2⟩
/- No wider than its budget. -/
theorem bst_ge {M : Nat → SlT} {o : Int} {i : Nat} (ho : (M i).1 = o) : ∀ {k : Nat}, i < k → (M i).2 ≤ bst M o k
  | 0, h => absurd h (Nat.not_lt_zero _)
  | k + 1, h => by
    rw [bst]
    by_cases c : i < k
    · have ih := bst_ge ho c
      cases e : ((M k).1 == o)
      · exact ih
      · show _ ≤ imx (bst M o k) (M k).2
        unfold imx
        split <;> omega
    · obtain rfl : i = k := by omega
      rw [beq_iff_eq.2 ho]
      show _ ≤ imx (bst M o i) (M i).2
      unfold imx
      split <;> omega
theorem gate_budget {kn : Bool} {lo hi n d x s g : Int} {M : Nat → SlT} {m : Nat} {o : Int} (e : gaG kn lo hi n d x s g M m o = true) : gbB s g M m o n d x = true ∧ hi - lo ≤ gbI s g M m o n d x := by
  obtain ⟨i, h1, h2, h3, h4, h5, h6, h7, h8, h9, h10⟩ := gate_truth e
  have hb := bst_ge h4 h2
  have hl := le_mo h9
  have hI := okI_t h8
  have hp : plB s g M m = true := (oc_parts h3).1
  have hB : gbB s g M m o n d x = true := by
    unfold gbB
    rw [hp, h9, decide_eq_false (show ¬ x < 1 by omega), decide_eq_false (show ¬ bst M o m < moT n d x by omega), beq_eq_false_iff_ne.2 (show bst M o m ≠ 0 by omega)]
    rfl
  refine ⟨hB, ?_⟩
  unfold gbI
  rw [sel_t hB]
  omega
/- The gate goes just where an occurrence of a slot of that owner, of the round that the beginning lies in, has the whole. -/
def fdP (s g : Int) (M : Nat → SlT) (m : Nat) (o f t : Int) (i : Nat) : Bool := ocB s g M m i (saR s g M m f) && ((M i).1 == o && (decide (ocL s g M m i (saR s g M m f) ≤ f) && decide (t ≤ ocH s g M m i (saR s g M m f))))
def fdA (s g : Int) (M : Nat → SlT) (m : Nat) (o f t : Int) : Nat → Bool
  | 0 => false
  | i + 1 => fdA s g M m o f t i || fdP s g M m o f t i
theorem fdA_t {s g : Int} {M : Nat → SlT} {m : Nat} {o f t : Int} : ∀ {k : Nat}, fdA s g M m o f t k = true → ∃ i, i < k ∧ fdP s g M m o f t i = true
  | 0, h => by rw [fdA] at h; exact Bool.noConfusion h
  | k + 1, h => by
    rw [fdA, Bool.or_eq_true] at h
    rcases h with h | h
    · obtain ⟨i, h1, h2⟩ := fdA_t h
      exact ⟨i, by omega, h2⟩
    · exact ⟨k, by omega, h⟩
theorem fdA_of {s g : Int} {M : Nat → SlT} {m : Nat} {o f t : Int} {i : Nat} (h : fdP s g M m o f t i = true) : ∀ {k : Nat}, i < k → fdA s g M m o f t k = true
  | 0, hk => absurd hk (Nat.not_lt_zero _)
  | k + 1, hk => by
    rw [fdA]
    by_cases c : i < k
    · rw [fdA_of h c]; rfl
    · obtain rfl : i = k := by omega
      rw [h, Bool.or_true]
theorem gate_exact {s g : Int} {M : Nat → SlT} {m : Nat} {o f t : Int} (hft : f < t) : isB s g M m o f t = (decide (s ≤ f) && fdA s g M m o f t m) := by
  cases e : isB s g M m o f t
  · cases q : (decide (s ≤ f) && fdA s g M m o f t m)
    · rfl
    · simp only [Bool.and_eq_true, decide_eq_true_eq] at q
      obtain ⟨i, hi, hp⟩ := fdA_t q.2
      unfold fdP at hp
      simp only [Bool.and_eq_true, decide_eq_true_eq, beq_iff_eq] at hp
      obtain ⟨p1, p2, p3, p4⟩ := hp
      obtain ⟨a1, a2, a3⟩ := oc_found p1 p3 (by omega)
      have := is_of (o := o) (t := t) a1 (by rw [a2]; exact p2) (by omega) (by rw [a2, a3]; exact p4)
      rw [this] at e
      exact Bool.noConfusion e
  · obtain ⟨i1, i2, i3, i4, i5, i6⟩ := is_parts e
    obtain ⟨a1, a2, a3⟩ := sa_holds i3
    obtain ⟨b1, b2, b3, _⟩ := oc_parts a1
    obtain ⟨c1, c2, c3, c4⟩ := sa_yes i3
    have hs := (saG_t c4).2.2.1
    have hp : fdP s g M m o f t (saI s g M m f).toNat = true := by
      unfold fdP
      rw [b3, ← c2, a1, beq_iff_eq.2 i4, decide_eq_true a2, decide_eq_true i6]
      rfl
    rw [decide_eq_true hs, fdA_of hp b2]
    rfl
end Go.Proofs.YtcakhfobkbgfoaaDoor
namespace Go.Proofs.YtcakhfobkbgfoaaDoor
open Go.RowKit
set_option linter.unusedVariables false
theorem run_append_new {P : Program} (w : World) (base : Nat) (t ty e : TypeId) (i : TypeInfo) (z : Value) (size bytes : Nat) (ht : P.underlying t = some (.slice e)) (hi : P.info? e = some i) (hz : i.zero = some z)
    (hsize : i.size = size) (hby : i.bytes = bytes) (hzs : z.cells.size = size) (hsz : 0 < size)
    (v : Value) (n : Nat) (xs : List Value) (hown : w.ownsRow base e size v n xs)
    (a : Addr) (m c : Nat) (news : List Value) (hl : news.length = m * size) (hnews : ∀ j u, news[j]? = some u → w.cell? (a.add j) = some u) (h1 : ∀ u ∈ news, u.oneCell' = true)
    (h63 : n + m ≤ maxLen) (hbytes : (n + m) * bytes ≤ 140737488355328) (hbase : base ≤ w.heap.size) :
    ∃ v' w', (Builtin.append_ #[t, t] ty #[v, .slice (some a) m c]).run P w = .ok v' w' ∧ w'.ownsRow base e size v' (n + m) (xs ++ news) ∧ w.grownBy w' v.ownBlock ∧ (∀ g, v'.ownBlock = some g → v.ownBlock = some g ∨ w.heap.size ≤ g) := by
  obtain ⟨v', w', hr, h2, h3, _⟩ := run_append_own (P := P) w base t ty e i z size bytes ht hi hz hsize hby hzs hsz v n xs hown a m c news hl hnews h1 h63 hbytes hbase
  refine ⟨v', w', hr, h2, h3, ?_⟩
  subst hsize
  subst hby
  intro g0 hg0
  have hsmall : n + m ≤ 9223372036854775807 := by simp only [maxLen] at h63; omega
  rcases hown.2 with ⟨rfl, rfl⟩ | ⟨g, cap, cur, rfl, hbg, hg, hnc, hcm, hcs, htake⟩
  · by_cases hm : m = 0
    · subst hm
      obtain ⟨v2, w2, hr2, _, _, h4⟩ := run_append_own (P := P) w base t ty e i z i.size i.bytes ht hi hz rfl rfl hzs hsz _ 0 xs hown a 0 c news hl hnews h1 h63 hbytes hbase
      rw [hr] at hr2
      injection hr2 with e1 _
      rw [e1, h4.2 ⟨rfl, rfl⟩] at hg0
      simp [Value.ownBlock] at hg0
    · have hr2 := run_append_nil (P := P) w t ty e i z ht hi hz a m c news hl hnews (by omega) (by omega) (by have hb := hbytes; simp only [Nat.zero_add] at hb; omega)
      rw [hr] at hr2
      injection hr2 with e1 _
      rw [e1] at hg0
      simp [Value.ownBlock] at hg0
      exact .inr (by omega)
  · by_cases hroom : n + m ≤ cap
    · have hfit : n * i.size + news.length ≤ cur.size := by rw [hl, hcs, ← Nat.add_mul]; exact Nat.mul_le_mul_right _ hroom
      have hr2 := run_append_room (P := P) w t ty e i ht hi g n cap cur hg a m c news hl hnews h1 hroom hfit
      rw [hr] at hr2
      injection hr2 with e1 _
      rw [e1] at hg0
      exact .inl hg0
    · have holds : ∀ j u, xs[j]? = some u → w.cell? ((⟨g, 0, none⟩ : Addr).add j) = some u := hown.cells (g := g) rfl
      have hr2 := run_append_grow (P := P) w t ty e i z ht hi hz ⟨g, 0, none⟩ n cap xs hown.1 holds a m c news hl hnews (by omega) (by omega) (growslice_fits (by omega) hbytes)
      rw [hr] at hr2
      injection hr2 with e1 _
      rw [e1] at hg0
      simp [Value.ownBlock] at hg0
      exact .inr (by omega)
theorem wpList_append_new {P : Program} {w : World} {ops : Array Oper} {rest : List Oper} {o : Oper} {a : Act} {Q : Exit → Act → World → Prop} (hgd : o.guard = none) (s x : Operand) (t : TypeId)
    (ho : o.op = .call { callee := .builtin .append, args := #[s, x], argTypes := #[t, t] })
    (base : Nat) (e : TypeId) (i : TypeInfo) (z : Value) (size bytes : Nat) (ht : P.underlying t = some (.slice e)) (hi : P.info? e = some i) (hz : i.zero = some z)
    (hsize : i.size = size) (hby : i.bytes = bytes) (hzs : z.cells.size = size) (hsz : 0 < size)
    (v : Value) (n : Nat) (xs : List Value) (hs : a.eval s = v) (hown : w.ownsRow base e size v n xs)
    (ad : Addr) (m c : Nat) (news : List Value) (hx : a.eval x = .slice (some ad) m c) (hl : news.length = m * size) (hnews : ∀ j u, news[j]? = some u → w.cell? (ad.add j) = some u) (h1 : ∀ u ∈ news, u.oneCell' = true)
    (h63 : n + m ≤ maxLen) (hbytes : (n + m) * bytes ≤ 140737488355328) (hbase : base ≤ w.heap.size)
    (h : ∀ v' w', w'.ownsRow base e size v' (n + m) (xs ++ news) → w.grownBy w' v.ownBlock → (∀ g, v'.ownBlock = some g → v.ownBlock = some g ∨ w.heap.size ≤ g) → wpList P ops Q rest (a.put o.dst v') w') : wpList P ops Q (o :: rest) a w := by
  refine wpList_plain hgd fun _ hK => ?_
  obtain ⟨v', w', hr, h2, h3, h4⟩ := run_append_new (P := P) w base t o.type e i z size bytes ht hi hz hsize hby hzs hsz v n xs hown ad m c news hl hnews h1 h63 hbytes hbase
  unfold Oper.wp execOp
  simp only [ho, resolve, invoke, builtin, Sem.run_bind, Sem.run_pure, Result.andThen_ok, List.map_toArray, List.map_cons, List.map_nil, hs, hx, hr]
  exact hK _ _ (h v' w' h2 h3 h4)
theorem info_int : (Tryd.prog.info? 3).map (fun i => (i.zero, i.size, i.bytes)) = some (some (.int .i64 0), 1, 8) := by kernel_rfl
theorem int_at (w : World) (p : Int) (T : TypeId) : ∀ j u, [.int .i64 p][j]? = some u → (w.alloc (.cells #[.int .i64 p] T)).cell? ((⟨w.heap.size, 0, none⟩ : Addr).add j) = some u := by
  intro j u h
  match j, h with
  | 0, h => simp at h; subst h; simp [Addr.add]
theorem add_int {w : World} {ops : Array Oper} {rest : List Oper} {o : Oper} {a : Act} {Q : Exit → Act → World → Prop} {p : Int} (hgd : o.guard = none) (s x : Operand)
    (ho : o.op = .call { callee := .builtin .append, args := #[s, x], argTypes := #[80, 80] }) (base : Nat) (L : List Int) (v : Value) (hs : a.eval s = v) (hown : w.ownsRow base 3 1 v L.length (irow L))
    (hx : a.eval x = .slice (some ⟨w.heap.size, 0, none⟩) 1 1) (hL : L.length ≤ 64) (hbase : base ≤ w.heap.size)
    (h : ∀ v' w', w'.ownsRow base 3 1 v' (L ++ [p]).length (irow (L ++ [p])) → w.grownBy w' v.ownBlock → (∀ g, v'.ownBlock = some g → v.ownBlock = some g ∨ w.heap.size ≤ g) → wpList Tryd.prog ops Q rest (a.put o.dst v') w') :
    wpList Tryd.prog ops Q (o :: rest) a (w.alloc (.cells #[.int .i64 p] 3)) := by
  obtain ⟨i0, hi, hz0, hz1, hz2⟩ := info_parts info_int
  refine wpList_append_new hgd s x 80 ho base 3 i0 (.int .i64 0) 1 8 Tryd.underlying80 hi hz0 hz1 hz2 rfl (by decide) v L.length (irow L) hs (World.ownsRow.alloc hown _) ⟨w.heap.size, 0, none⟩ 1 1 [.int .i64 p] hx rfl (int_at w p 3) (by intro u hu; simp at hu; subst hu; rfl) (by unfold maxLen; omega) (by omega) (by simp; omega) ?_
  intro v' w' h1 h2 h3
  refine h v' w' (by rw [irow_snoc, List.length_append]; exact h1) ?_ (fun g hg => ?_)
  · exact ⟨h2.os, h2.tape, h2.output, Nat.le_trans (by simp) h2.size, fun k hk hne => (h2.block k (by simp; omega) hne).trans ((World.grownBy_alloc w _ none).block k hk (by simp))⟩
  · rcases h3 g hg with q | q
    · exact .inl q
    · exact .inr (by simp at q; omega)
theorem made_int (w : World) : (w.alloc (.cells #[] 3)).ownsRow w.heap.size 3 1 (.slice (some ⟨w.heap.size, 0, none⟩) 0 0) ([] : List Int).length (irow []) := World.ownsRow_made w #[] 0 (Nat.le_refl _) (by simp [maxLen]) (by simp)
theorem nil_int (w : World) (B : Nat) : w.ownsRow B 3 1 (.slice none 0 0) ([] : List Int).length (irow []) := World.ownsRow_nil w B 3 1
theorem info_ival : (Tryd.prog.info? 25).map (fun i => (i.zero, i.size, i.bytes)) = some (some (.agg #[.int .i64 0, .int .i64 0]), 2, 16) := by kernel_rfl
theorem ival_at (w : World) (p : VT) (T : TypeId) : ∀ j u, [.int .i64 p.1, .int .i64 p.2][j]? = some u → (w.alloc (.cells #[.int .i64 p.1, .int .i64 p.2] T)).cell? ((⟨w.heap.size, 0, none⟩ : Addr).add j) = some u := by
  intro j u h
  match j, h with
  | 0, h => simp at h; subst h; simp [Addr.add]
  | 1, h => simp at h; subst h; simp [Addr.add]
theorem add_ival {w : World} {ops : Array Oper} {rest : List Oper} {o : Oper} {a : Act} {Q : Exit → Act → World → Prop} {p0 : Int} {p1 : Int} (hgd : o.guard = none) (s x : Operand)
    (ho : o.op = .call { callee := .builtin .append, args := #[s, x], argTypes := #[102, 102] }) (base : Nat) (L : List VT) (v : Value) (hs : a.eval s = v) (hown : w.ownsRow base 25 2 v L.length (vrow L))
    (hx : a.eval x = .slice (some ⟨w.heap.size, 0, none⟩) 1 1) (hL : L.length ≤ 64) (hbase : base ≤ w.heap.size)
    (h : ∀ v' w', w'.ownsRow base 25 2 v' (L ++ [(p0, p1)]).length (vrow (L ++ [(p0, p1)])) → w.grownBy w' v.ownBlock → (∀ g, v'.ownBlock = some g → v.ownBlock = some g ∨ w.heap.size ≤ g) → wpList Tryd.prog ops Q rest (a.put o.dst v') w') :
    wpList Tryd.prog ops Q (o :: rest) a (w.alloc (.cells #[.int .i64 p0, .int .i64 p1] 25)) := by
  obtain ⟨i0, hi, hz0, hz1, hz2⟩ := info_parts info_ival
  refine wpList_append_new hgd s x 102 ho base 25 i0 (.agg #[.int .i64 0, .int .i64 0]) 2 16 Tryd.underlying102 hi hz0 hz1 hz2 rfl (by decide) v L.length (vrow L) hs (World.ownsRow.alloc hown _) ⟨w.heap.size, 0, none⟩ 1 1 [.int .i64 p0, .int .i64 p1] hx rfl (ival_at w (p0, p1) 25) (by intro u hu; simp at hu; rcases hu with rfl | rfl <;> rfl) (by unfold maxLen; omega) (by omega) (by simp; omega) ?_
  intro v' w' h1 h2 h3
  refine h v' w' (by rw [vrow_snoc, List.length_append]; exact h1) ?_ (fun g hg => ?_)
  · exact ⟨h2.os, h2.tape, h2.output, Nat.le_trans (by simp) h2.size, fun k hk hne => (h2.block k (by simp; omega) hne).trans ((World.grownBy_alloc w _ none).block k hk (by simp))⟩
  · rcases h3 g hg with q | q
    · exact .inl q
    · exact .inr (by simp at q; omega)
theorem made_ival (w : World) : (w.alloc (.cells #[] 25)).ownsRow w.heap.size 25 2 (.slice (some ⟨w.heap.size, 0, none⟩) 0 0) ([] : List VT).length (vrow []) := World.ownsRow_made w #[] 0 (Nat.le_refl _) (by simp [maxLen]) (by simp)
theorem nil_ival (w : World) (B : Nat) : w.ownsRow B 25 2 (.slice none 0 0) ([] : List VT).length (vrow []) := World.ownsRow_nil w B 25 2
theorem peer_at (w : World) (p : PT) (T : TypeId) : ∀ j u, [.int .i64 p.1, .int .i64 p.2.1, .int .i64 p.2.2.1, .int .i64 p.2.2.2.1, .bool p.2.2.2.2][j]? = some u → (w.alloc (.cells #[.int .i64 p.1, .int .i64 p.2.1, .int .i64 p.2.2.1, .int .i64 p.2.2.2.1, .bool p.2.2.2.2] T)).cell? ((⟨w.heap.size, 0, none⟩ : Addr).add j) = some u := by
  intro j u h
  match j, h with
  | 0, h => simp at h; subst h; simp [Addr.add]
  | 1, h => simp at h; subst h; simp [Addr.add]
  | 2, h => simp at h; subst h; simp [Addr.add]
  | 3, h => simp at h; subst h; simp [Addr.add]
  | 4, h => simp at h; subst h; simp [Addr.add]
end Go.Proofs.YtcakhfobkbgfoaaDoor
namespace Go.Proofs.YtcakhfobkbgfoaaDoor
open Go.RowKit
set_option linter.unusedVariables false
theorem own_baseI {w : World} {base base' s n : Nat} {T : TypeId} {v : Value} {xs : List Value} (h : w.ownsRow base' T s v n xs) (hb : base ≤ base') : w.ownsRow base T s v n xs := by
  refine ⟨h.1, ?_⟩
  rcases h.2 with q | ⟨g, cap, cur, h1, h2, h3⟩
  · exact .inl q
  · exact .inr ⟨g, cap, cur, h1, Nat.le_trans hb h2, h3⟩
/- The owners of a plan, in the specification. -/
theorem hasO_yes {M : Nat → SlT} {o : Int} {j : Nat} (h : hasO M o j = true) : hasO M o (j + 1) = true := by rw [hasO, h]; rfl
theorem hasO_at {M : Nat → SlT} {o : Int} {j : Nat} (h : hasO M o j = false) : hasO M o (j + 1) = ((M j).1 == o) := by rw [hasO, h]; rfl
theorem owL_yes {M : Nat → SlT} {n q : Nat} (h : hasO M (q : Int) n = true) : owL M n (q + 1) = owL M n q ++ [(q : Int)] := by rw [owL, h]
theorem owL_no {M : Nat → SlT} {n q : Nat} (h : hasO M (q : Int) n = false) : owL M n (q + 1) = owL M n q := by rw [owL, h]
end Go.Proofs.YtcakhfobkbgfoaaDoor
namespace Go.Proofs.YtcakhfobkbgfoaaDoor
open Go.RowKit
set_option linter.unusedVariables false
/- Rows of slots as lists of cells; a copy of a plan; a plan that is moved, in the specification. -/
def srow (M : Nat → SlT) (n : Nat) : List Value := (List.range (n * 2)).map (MFSlot M)
theorem srow_len (M : Nat → SlT) (n : Nat) : (srow M n).length = n * 2 := by rw [srow, List.length_map, List.length_range]
theorem srow_get {M : Nat → SlT} {n j : Nat} {u : Value} (h : (srow M n)[j]? = some u) : j < n * 2 ∧ MFSlot M j = u := by
  rw [srow, List.getElem?_map] at h
  by_cases hj : j < n * 2
  · rw [List.getElem?_range hj] at h
    exact ⟨hj, by simpa using h⟩
  · rw [List.getElem?_eq_none (by rw [List.length_range]; omega)] at h
    simp at h
theorem MFSlot_one (M : Nat → SlT) (j : Nat) : (MFSlot M j).oneCell' = true := by
  have h : j % 2 = 0 ∨ j % 2 = 1 := by omega
  unfold MFSlot
  rcases h with h | h <;> rw [h] <;> rfl
theorem srow_one (M : Nat → SlT) (n : Nat) : ∀ u ∈ srow M n, u.oneCell' = true := by
  intro u hu
  rw [srow, List.mem_map] at hu
  obtain ⟨j, _, rfl⟩ := hu
  exact MFSlot_one M j
theorem addr_add (b off j : Nat) : (⟨b, off, none⟩ : Addr).add j = ⟨b, off + j, none⟩ := by
  unfold Addr.add
  split
  · next h => subst h; rfl
  · rfl
theorem Cs.srow {w : World} {b off n : Nat} {M : Nat → SlT} (h : Cs w b off (n * 2) (MFSlot M)) : ∀ j u, (Go.Proofs.YtcakhfobkbgfoaaDoor.srow M n)[j]? = some u → w.cell? ((⟨b, off, none⟩ : Addr).add j) = some u := by
  intro j u hu
  obtain ⟨hj, rfl⟩ := srow_get hu
  rw [addr_add]
  exact h.2 j hj
theorem info13_parts : ∃ i, Tryd.prog.info? 42 = some i ∧ i.zero = some (.agg #[.int .i64 0, .int .i64 0]) ∧ i.size = 2 ∧ i.bytes = 16 := by
  obtain ⟨i, hi, hz⟩ := Option.map_eq_some_iff.1 infoSlot
  simp only [Prod.mk.injEq] at hz
  exact ⟨i, hi, hz.1, hz.2.1, hz.2.2⟩
def pmS (s g : Int) (M : Nat → SlT) (n : Nat) (b : Int) : Int := match pmB s g M n b with | true => s + b | false => 0
def pmG (s g : Int) (M : Nat → SlT) (n : Nat) (b : Int) : Int := match pmB s g M n b with | true => g | false => 0
def pmN (s g : Int) (M : Nat → SlT) (n : Nat) (b : Int) : Nat := match pmB s g M n b with | true => n | false => 0
theorem pm_no {s g : Int} {M : Nat → SlT} {n : Nat} {b : Int} (h : pmB s g M n b = false) : pmS s g M n b = 0 ∧ pmG s g M n b = 0 ∧ pmN s g M n b = 0 := by
  unfold pmS pmG pmN
  rw [h]
  exact ⟨rfl, rfl, rfl⟩
theorem pm_yes {s g : Int} {M : Nat → SlT} {n : Nat} {b : Int} (h : pmB s g M n b = true) : pmS s g M n b = s + b ∧ pmG s g M n b = g ∧ pmN s g M n b = n := by
  unfold pmS pmG pmN
  rw [h]
  exact ⟨rfl, rfl, rfl⟩
end Go.Proofs.YtcakhfobkbgfoaaDoor
namespace Go.Proofs.YtcakhfobkbgfoaaDoor
open Go.RowKit
set_option linter.unusedVariables false
/- A plan in a box beside the cursor, its slots in a row of one's own. -/
def insS (M : Nat → SlT) (n : Nat) (q : SlT) (i : Nat) : SlT := if i < n then M i else q
def updS (M : Nat → SlT) (q : SlT) (i : Nat) : SlT := if i = 0 then q else M i
theorem srow_ins (M : Nat → SlT) (n : Nat) (q : SlT) : srow (insS M n q) (n + 1) = srow M n ++ [.int .i64 q.1, .int .i64 q.2] := by
  rw [srow, mapF_add, srow]
  congr 1
  · refine List.map_congr_left fun c hc => ?_
    have hc' : c < n * 2 := List.mem_range.1 hc
    show MCSlot (insS M n q (c / 2)) _ = MCSlot (M (c / 2)) _
    rw [insS, if_pos (by omega)]
  · show [MFSlot (insS M n q) (n * 2 + 0), MFSlot (insS M n q) (n * 2 + 1)] = _
    rw [MFSlot_at _ _ 0 (by decide), MFSlot_at _ _ 1 (by decide), insS, if_neg (by omega)]
    rfl
theorem But.new13 {w w' w'' : World} {p j : Nat} (h : But p w w') (hb : But j w' w'') (hj : w.heap.size ≤ j) : But p w w'' :=
  ⟨hb.1.trans h.1, hb.2.1.trans h.2.1, hb.2.2.1.trans h.2.2.1, Nat.le_trans h.2.2.2.1 hb.2.2.2.1, fun k hk hp => (hb.2.2.2.2 k (Nat.lt_of_lt_of_le hk h.2.2.2.1) (by omega)).trans (h.2.2.2.2 k hk hp)⟩
theorem But.grow13 {w w' w'' : World} {p : Nat} {o : Option Nat} (h : But p w w') (hg : w'.grownBy w'' o) (ho : ∀ q, q < w.heap.size → some q ≠ o) : But p w w'' :=
  ⟨hg.os.trans h.1, hg.tape.trans h.2.1, hg.output.trans h.2.2.1, Nat.le_trans h.2.2.2.1 hg.size, fun k hk hp => (hg.block k (Nat.lt_of_lt_of_le hk h.2.2.2.1) (ho k hk)).trans (h.2.2.2.2 k hk hp)⟩
theorem But.one13 (w : World) (j o : Nat) (u : Value) : But j w (w.setCell ⟨j, o, none⟩ u) := (But.refl j w).setCell o u
theorem CurOk.below13 {w w' : World} {B p base : Nat} (h : CurOk w B p) (hb : Below base w w') (hp : p < base) : CurOk w' B p := by
  obtain ⟨a, n, c, i, hh, h0, h1, h2, f0, f1, f2, hi, hn, hc, hB, hpw⟩ := h
  refine ⟨a, n, c, i, hh, ?_, ?_, ?_, ?_, ?_, ?_, hi, hn, hc.below (hb.mono (by omega)), hB, Nat.lt_of_lt_of_le hpw hb.size⟩
  · rw [hb.cell (p := ⟨p, 0, none⟩) hp]; exact h0
  · rw [hb.cell (p := ⟨p, 1, none⟩) hp]; exact h1
  · rw [hb.cell (p := ⟨p, 2, none⟩) hp]; exact h2
  · rw [hb.frozen (p := ⟨p, 0, none⟩) hp]; exact f0
  · rw [hb.frozen (p := ⟨p, 1, none⟩) hp]; exact f1
  · rw [hb.frozen (p := ⟨p, 2, none⟩) hp]; exact f2
theorem wp_append13 {P : Program} {w : World} {o : Oper} {a : Act} {K : Act → World → Prop} {Q : Exit → Act → World → Prop} (s x : Operand) (t : TypeId)
    (ho : o.op = .call { callee := .builtin .append, args := #[s, x], argTypes := #[t, t] })
    (base : Nat) (e : TypeId) (i : TypeInfo) (z : Value) (size bytes : Nat) (ht : P.underlying t = some (.slice e)) (hi : P.info? e = some i) (hz : i.zero = some z)
    (hsize : i.size = size) (hby : i.bytes = bytes) (hzs : z.cells.size = size) (hsz : 0 < size)
    (v : Value) (n : Nat) (xs : List Value) (hs : a.eval s = v) (hown : w.ownsRow base e size v n xs)
    (ad : Addr) (m c : Nat) (news : List Value) (hx : a.eval x = .slice (some ad) m c) (hl : news.length = m * size) (hnews : ∀ j u, news[j]? = some u → w.cell? (ad.add j) = some u) (h1 : ∀ u ∈ news, u.oneCell' = true)
    (h63 : n + m ≤ maxLen) (hbytes : (n + m) * bytes ≤ 140737488355328) (hbase : base ≤ w.heap.size)
    (h : ∀ v' w', w'.ownsRow base e size v' (n + m) (xs ++ news) → w.grownBy w' v.ownBlock → (∀ g, v'.ownBlock = some g → v.ownBlock = some g ∨ w.heap.size ≤ g) → K (a.put o.dst v') w') : o.wp P a w K Q := by
  obtain ⟨v', w', hr, h2, h3, h4⟩ := run_append_new (P := P) w base t o.type e i z size bytes ht hi hz hsize hby hzs hsz v n xs hown ad m c news hl hnews h1 h63 hbytes hbase
  unfold Oper.wp execOp
  simp only [ho, resolve, invoke, builtin, Sem.run_bind, Sem.run_pure, Result.andThen_ok, List.map_toArray, List.map_cons, List.map_nil, hs, hx, hr]
  exact h v' w' h2 h3 h4
theorem slot_one (x y : Int) : ∀ u ∈ [Value.int .i64 x, .int .i64 y], u.oneCell' = true := by
  intro u hu
  simp at hu
  rcases hu with rfl | rfl <;> rfl
theorem slot_at (w : World) (x y : Int) : ∀ j u, [Value.int .i64 x, .int .i64 y][j]? = some u → (w.alloc (.cells #[.int .i64 x, .int .i64 y] 42)).cell? ((⟨w.heap.size, 0, none⟩ : Addr).add j) = some u := by
  intro j u h
  match j, h with
  | 0, h => simp at h; subst h; simp [Addr.add]
  | 1, h => simp at h; subst h; simp [Addr.add]
def Pw (w0 : World) (B p bt : Nat) (w : World) (s g : Int) (A : Option Addr) (n c : Nat) (M : Nat → SlT) : Prop := Tx3 w bt (.int .i64 s) (.int .i64 g) (.slice A n c) ∧ w.ownsRow (w0.heap.size + 1) 42 2 (.slice A n c) n (srow M n) ∧ CurOk w B p ∧ But p w0 w ∧ Tx3 w w0.heap.size (.int .i64 0) (.int .i64 0) (.slice none 0 0) ∧ (∀ q, (Value.slice A n c).ownBlock = some q → q ≠ bt)
section
variable {w0 w w' : World} {B p bt : Nat} {s g : Int} {A : Option Addr} {n c : Nat} {M : Nat → SlT}
theorem Pw.but (h : Pw w0 B p bt w s g A n c M) (hc : CurOk w' B p) (hb : But p w w') (hp : p < w0.heap.size) (hbt : w0.heap.size < bt) : Pw w0 B p bt w' s g A n c M :=
  ⟨h.1.but hb (by omega), own_butK h.2.1 hb (by omega), hc, h.2.2.2.1.trans hb, h.2.2.2.2.1.but hb (by omega), h.2.2.2.2.2⟩
theorem Pw.below (h : Pw w0 B p bt w s g A n c M) (hb : Below w.heap.size w w') : Pw w0 B p bt w' s g A n c M :=
  ⟨h.1.below hb, own_belK' h.2.1 hb, h.2.2.1.below hb, h.2.2.2.1.trans (But.of_below hb), h.2.2.2.2.1.below hb, h.2.2.2.2.2⟩
theorem Pw.drew (h : Pw w0 B p bt w s g A n c M) : Pw w0 B p bt w.drew s g A n c M := h
theorem Pw.set0 (h : Pw w0 B p bt w s g A n c M) (hp : p < w0.heap.size) (hB : B ≤ p) (hbt : w0.heap.size < bt) (s' : Int) : Pw w0 B p bt (w.setCell ⟨bt, 0, none⟩ (.int .i64 s')) s' g A n c M :=
  ⟨h.1.set0 _, own_neK h.2.1 (But.one13 _ _ _ _) h.2.2.2.2.2, h.2.2.1.setOther (by omega) (by omega) _ _, h.2.2.2.1.new13 (But.one13 _ _ _ _) (by omega), h.2.2.2.2.1.but (But.one13 _ _ _ _) (by omega), h.2.2.2.2.2⟩
theorem Pw.set1 (h : Pw w0 B p bt w s g A n c M) (hp : p < w0.heap.size) (hB : B ≤ p) (hbt : w0.heap.size < bt) (g' : Int) : Pw w0 B p bt (w.setCell ⟨bt, 1, none⟩ (.int .i64 g')) s g' A n c M :=
  ⟨h.1.set1 _, own_neK h.2.1 (But.one13 _ _ _ _) h.2.2.2.2.2, h.2.2.1.setOther (by omega) (by omega) _ _, h.2.2.2.1.new13 (But.one13 _ _ _ _) (by omega), h.2.2.2.2.1.but (But.one13 _ _ _ _) (by omega), h.2.2.2.2.2⟩
theorem Pw.empty (h : Pw w0 B p bt w s g A n c M) (hp : p < w0.heap.size) (hB : B ≤ p) (hbt : w0.heap.size < bt) (M' : Nat → SlT) : Pw w0 B p bt (w.setCell ⟨bt, 2, none⟩ (.slice none 0 0)) s g none 0 0 M' :=
  ⟨h.1.set2 _, World.ownsRow_nil _ _ _ _, h.2.2.1.setOther (by omega) (by omega) _ _, h.2.2.2.1.new13 (But.one13 _ _ _ _) (by omega), h.2.2.2.2.1.but (But.one13 _ _ _ _) (by omega), by intro q hq; simp [Value.ownBlock] at hq⟩
/- Its list grew: the row that it holds now. -/
theorem Pw.grow {A' : Option Addr} {n' c' : Nat} {M' : Nat → SlT} (h : Pw w0 B p bt w s g A n c M) (hp : p < w0.heap.size) (hB : B ≤ p) (hbt : w0.heap.size < bt) (hg : w.grownBy w' (Value.slice A n c).ownBlock) (ho : w'.ownsRow (w0.heap.size + 1) 42 2 (.slice A' n' c') n' (srow M' n')) (hf : ∀ q, (Value.slice A' n' c').ownBlock = some q → (Value.slice A n c).ownBlock = some q ∨ w.heap.size ≤ q) : Pw w0 B p bt (w'.setCell ⟨bt, 2, none⟩ (.slice A' n' c')) s g A' n' c' M' := by
  have hbw := h.1.1
  have hne : some bt ≠ (Value.slice A n c).ownBlock := fun e => h.2.2.2.2.2 bt e.symm rfl
  have hlt : ∀ q, q < w0.heap.size + 1 → some q ≠ (Value.slice A n c).ownBlock := fun q hq e => by have := (World.ownsRow.lt h.2.1 q e.symm).1; omega
  have hN : ∀ q, (Value.slice A' n' c').ownBlock = some q → q ≠ bt := fun q hq e => by
    rcases hf q hq with r | r
    · exact hne (by rw [r, e])
    · omega
  have hG : Below (w0.heap.size + 1) w w' := grown_bel hg (by omega) hlt
  have hc : CurOk w' B p := h.2.2.1.below13 hG (by omega)
  exact ⟨(h.1.kept hg hne).set2 _, own_neK ho (But.one13 _ _ _ _) hN, hc.setOther (by omega) (by omega) _ _, (h.2.2.2.1.grow13 hg (fun q hq => hlt q (by omega))).new13 (But.one13 _ _ _ _) (by omega), (h.2.2.2.2.1.kept hg (hlt _ (by omega))).but (But.one13 _ _ _ _) (by omega), hN⟩
theorem Pw.result (h : Pw w0 B p bt w s g A n c M) (hp : p < w0.heap.size) (hB : B ≤ p) {u0 u1 u2 : Value} : (((w.setCell ⟨w0.heap.size, 0, none⟩ u0).setCell ⟨w0.heap.size, 1, none⟩ u1).setCell ⟨w0.heap.size, 2, none⟩ u2).ownsRow w0.heap.size 42 2 (.slice A n c) n (srow M n) ∧ CurOk (((w.setCell ⟨w0.heap.size, 0, none⟩ u0).setCell ⟨w0.heap.size, 1, none⟩ u1).setCell ⟨w0.heap.size, 2, none⟩ u2) B p ∧ But p w0 (((w.setCell ⟨w0.heap.size, 0, none⟩ u0).setCell ⟨w0.heap.size, 1, none⟩ u1).setCell ⟨w0.heap.size, 2, none⟩ u2) := by
  have hb : But w0.heap.size w (((w.setCell ⟨w0.heap.size, 0, none⟩ u0).setCell ⟨w0.heap.size, 1, none⟩ u1).setCell ⟨w0.heap.size, 2, none⟩ u2) := (((But.refl _ w).setCell 0 u0).setCell 1 u1).setCell 2 u2
  exact ⟨own_baseI (own_butK h.2.1 hb (by omega)) (by omega), ((h.2.2.1.setOther (by omega) (by omega) _ _).setOther (by omega) (by omega) _ _).setOther (by omega) (by omega) _ _, h.2.2.2.1.new13 hb (Nat.le_refl _)⟩
end
def PlanDrawn (m : Nat) (w : World) (B p : Nat) (e : Ending) (w' : World) : Prop := ∃ (s g : Int) (A : Option Addr) (n c : Nat) (M : Nat → SlT), e = .returned (.agg #[.int .i64 s, .int .i64 g, .slice A n c]) ∧ n ≤ m ∧ (m = 12 → 1 ≤ n) ∧ w'.ownsRow w.heap.size 42 2 (.slice A n c) n (srow M n) ∧ CurOk w' B p ∧ But p w w'
set_option maxRecDepth 100000 in
set_option maxHeartbeats 16000000 in
theorem l13DrawPlan_any (B p : Nat) (w : World) (hcur : CurOk w B p) :
    Calls Tryd.prog 78 #[.pointer (some ⟨p, 0, none⟩)] w fun e w' => PlanDrawn 12 w B p e w' := by
  obtain ⟨i0, hi, hz0, hz1, hz2⟩ := info13_parts
  have hpl := hcur.lt
  have hp : p < w.heap.size := hpl.1
  have hB : B ≤ p := hpl.2
  have hpw : w.heap.size ≠ p := by omega
  have A1 := Below.nw w (.cells #[.int .i64 0, .int .i64 0, .slice none 0 0] 30)
  have R := Tx3.new w (.int .i64 0) (.int .i64 0) (.slice none 0 0) 30
  have cc0 := hcur.below A1
  have b0 : But p w _ := But.of_below A1
  clear A1 hcur hpl
  go_enter Tryd.func78, Tryd.ntmps78
  go_upto_region 1 with fail
  generalize w.alloc (.cells #[.int .i64 0, .int .i64 0, .slice none 0 0] 30) = v at *
  go_wp2_with fail
  refine (l1Below_any B p 40 _ cc0).mono ?_
  rintro e w1 ⟨s, rfl, sl, sh, sp, sz, cc, bb⟩
  replace R := R.but bb hpw
  replace b0 := b0.trans bb
  clear bb cc0 sh sp sz
  go_wp2_with fail
  refine (l1Below_any B p 6 _ cc).mono ?_
  rintro e w2 ⟨g, rfl, gl, gh, gp, gz, cc2, bb⟩
  replace R := R.but bb hpw
  replace b0 := b0.trans bb
  clear bb cc gh gp gz
  have A2 := Below.nw w2 (.cells #[.int .i64 s, .int .i64 g, .slice none 0 0] 30)
  have T : Pw w B p w2.heap.size (w2.alloc (.cells #[.int .i64 s, .int .i64 g, .slice none 0 0] 30)) s g none 0 0 (fun _ => zSl) := ⟨Tx3.new w2 _ _ _ _, World.ownsRow_nil _ _ _ _, cc2.below A2, b0.trans (But.of_below A2), R.below A2, by intro q hq; simp [Value.ownBlock] at hq⟩
  have hbt : w.heap.size < w2.heap.size := R.1
  clear A2 b0 R cc2
  go_upto_region 2 with fail
  generalize w2.heap.size = bt at *
  generalize w2.alloc (.cells #[.int .i64 s, .int .i64 g, .slice none 0 0] 30) = v at *
  go_wp2_with fail
  refine (l1Below_any B p 5 _ T.2.2.1).mono ?_; rintro e v1 ⟨m, rfl, ml, mh, mp, mz, cc, bb⟩; replace T := T.but cc bb hp hbt; clear cc bb mz
  have hm := mp (by omega)
  clear mp mh
  go_wp2_with fail
  refine (l1Once_any B p 20 _ T.2.2.1).mono ?_; rintro e v2 ⟨oo, rfl, cc, bb⟩; replace T := T.but cc bb hp hbt; clear cc bb
  cases oo
  · go_upto_region 5 with fail
    have hN0 : 0 ≤ 1 + m := by omega
    have hN1 : 1 ≤ 1 + m ∧ 1 + m ≤ 12 := by omega
    clear hm ml
    generalize 1 + m = nn at *
    obtain ⟨N, rfl⟩ := Int.eq_ofNat_of_zero_le hN0
    have hN2 : 1 ≤ N ∧ N ≤ 12 := by omega
    clear hN0 hN1
    go_wp2_with fail
    go_loopw [5] (fun i wr => ∃ (A : Option Addr) (n c : Nat) (M : Nat → SlT), i = .int .i64 (n : Int) ∧ n ≤ N ∧ Pw w B p bt wr s g A n c M) (fun i _ => N - (intOf i).toNat)
    case atStart => exact ⟨none, 0, 0, fun _ => zSl, rfl, Nat.zero_le _, T⟩
    case round =>
      clear T
      obtain ⟨A, n, c, M, rfl, hn, T⟩ := hrel
      by_cases hlt : n < N
      · have hli : (n : Int) < (N : Int) := by omega
        obtain ⟨n0, n1, n2, n3, n4, n5, n6⟩ := id T.1
        go_upto_region 8 with fail
        refine wp_region_held_drew (S := (fun _ => True)) (by kernel_rfl) ?_ (fun hHeld => ?_)
        · trivial
        clear n0 n1 n2 n3 n4 n5 n6
        replace T := T.drew
        generalize wr.drew = vx at *
        (obtain ⟨n0, n1, n2, n3, n4, n5, n6⟩ := id T.1)
        refine wpAnyH_take (i := 0) (v := ?_) (by rw [List.getElem?_toArray]; rfl) (by kernel_rfl) (by kernel_rfl) (by kernel_rfl) (by intro _ _ _ h; exact h) (Or.inl ⟨by rfl, ?_⟩) (by assumption) ?_
        rotate_left
        · (intro w hSw; (try dsimp only at hSw); go_simp; all_goals with_reducible rfl)
        (try simp only [Act.put, List.setIfInBounds_toArray, List.set_cons_zero, List.set_cons_succ])
        refine wpAnyH_take (i := 2) (v := ?_) (by rw [List.getElem?_toArray]; rfl) (by kernel_rfl) (by kernel_rfl) (by kernel_rfl) (by intro _ _ _ h; exact h) (Or.inl ⟨by rfl, ?_⟩) (by assumption) ?_
        rotate_left
        · (intro w hSw; (try dsimp only at hSw); go_simp; all_goals with_reducible rfl)
        (try simp only [Act.put, List.setIfInBounds_toArray, List.set_cons_zero, List.set_cons_succ])
        refine wpAnyH_take (i := 4) (v := ?_) (by rw [List.getElem?_toArray]; rfl) (by kernel_rfl) (by kernel_rfl) (by kernel_rfl) (by intro _ _ _ h; exact h) (Or.inl ⟨by rfl, ?_⟩) (by assumption) ?_
        rotate_left
        · (intro w hSw; (try dsimp only at hSw); go_simp; all_goals with_reducible rfl)
        (try simp only [Act.put, List.setIfInBounds_toArray, List.set_cons_zero, List.set_cons_succ])
        refine wpAnyH_ready (rs := [1, 3]) (by kernel_rfl) (by simp) ?_
        refine (AllReadyH.cons (by rw [List.getElem?_toArray]; rfl) (fun K hK => ?_) (AllReadyH.cons (by rw [List.getElem?_toArray]; rfl) (fun K hK => ?_) AllReadyH.nil))
        · go_simp
          refine hK.out _ _ ?_ (fun hHeld => ?_)
          · trivial
          clear hK K
          (try simp only [Act.put, List.setIfInBounds_toArray, List.set_cons_zero, List.set_cons_succ])
          refine wpAnyH_ready (rs := [3]) (by kernel_rfl) (by simp) ?_
          refine (AllReadyH.cons (by rw [List.getElem?_toArray]; rfl) (fun K hK => ?_) AllReadyH.nil)
          go_simp
          refine (l1Below_any B p 4 _ T.2.2.1).mono ?_; rintro e vx1 ⟨x1, rfl, x1l, x1h, x1p, _, cc, bb⟩; (clear n0 n1 n2 n3 n4 n5 n6); (have x1q := x1p (by omega)); (replace T := T.but cc bb hp hbt); (clear cc bb x1p); (obtain ⟨n0, n1, n2, n3, n4, n5, n6⟩ := id T.1)
          (try go_wp2_with fail)
          refine hK.out _ _ ?_ (fun hHeld => ?_)
          · trivial
          clear hK K
          (try simp only [Act.put, List.setIfInBounds_toArray, List.set_cons_zero, List.set_cons_succ])
          refine wpAnyH_ready (rs := [5]) (by kernel_rfl) (by simp) ?_
          refine (AllReadyH.cons (by rw [List.getElem?_toArray]; rfl) (fun K hK => ?_) AllReadyH.nil)
          go_simp
          refine (l1Below_any B p 60 _ T.2.2.1).mono ?_; rintro e vx2 ⟨x2, rfl, x2l, x2h, x2p, _, cc, bb⟩; (clear n0 n1 n2 n3 n4 n5 n6); (have x2q := x2p (by omega)); (replace T := T.but cc bb hp hbt); (clear cc bb x2p); (obtain ⟨n0, n1, n2, n3, n4, n5, n6⟩ := id T.1)
          (try go_wp2_with fail)
          refine hK.out _ _ ?_ (fun hHeld => ?_)
          · trivial
          clear hK K
          (try simp only [Act.put, List.setIfInBounds_toArray, List.set_cons_zero, List.set_cons_succ])
          refine wpAnyH_take (i := 6) (v := ?_) (by rw [List.getElem?_toArray]; rfl) (by kernel_rfl) (by kernel_rfl) (by kernel_rfl) (by intro _ _ _ h; exact h) (Or.inl ⟨by rfl, ?_⟩) (by assumption) ?_
          rotate_left
          · (intro w hSw; (try dsimp only at hSw); go_simp; all_goals with_reducible rfl)
          (try simp only [Act.put, List.setIfInBounds_toArray, List.set_cons_zero, List.set_cons_succ])
          refine wpAnyH_take (i := 7) (v := ?_) (by rw [List.getElem?_toArray]; rfl) (by kernel_rfl) (by kernel_rfl) (by kernel_rfl) (by intro _ _ _ h; exact h) (Or.inl ⟨by rfl, ?_⟩) (by assumption) ?_
          rotate_left
          · (intro w hSw; (try dsimp only at hSw); go_simp; all_goals with_reducible rfl)
          (try simp only [Act.put, List.setIfInBounds_toArray, List.set_cons_zero, List.set_cons_succ])
          refine wpAnyH_ready (rs := [8]) (by kernel_rfl) (by simp) ?_
          refine (AllReadyH.cons (by rw [List.getElem?_toArray]; rfl) (fun K hK => ?_) AllReadyH.nil)
          go_simp
          (clear n0 n1 n2 n3 n4 n5 n6); (generalize IntKind.i64.wrap (1 + x2) = y2 at *); (have A6 := Below.nw vx2 (.cells #[.int .i64 x1, .int .i64 y2] 42)); (have HN : Hid (∀ j u, [Value.int .i64 x1, .int .i64 y2][j]? = some u → (vx2.alloc (.cells #[.int .i64 x1, .int .i64 y2] 42)).cell? ((⟨vx2.heap.size, 0, none⟩ : Addr).add j) = some u) := slot_at vx2 x1 y2); (replace T := T.below A6); (clear A6); (generalize vx2.heap.size = jb at *); (generalize vx2.alloc (.cells #[.int .i64 x1, .int .i64 y2] 42) = vx3 at *); (obtain ⟨n0, n1, n2, n3, n4, n5, n6⟩ := id T.1)
          refine hK.out _ _ ?_ (fun hHeld => ?_)
          · trivial
          clear hK K
          (try simp only [Act.put, List.setIfInBounds_toArray, List.set_cons_zero, List.set_cons_succ])
          refine wpAnyH_ready (rs := [9]) (by kernel_rfl) (by simp) ?_
          refine (AllReadyH.cons (by rw [List.getElem?_toArray]; rfl) (fun K hK => ?_) AllReadyH.nil)
          rw [if_pos (by rfl)]; (clear n0 n1 n2 n3 n4 n5 n6); (have hsz : w.heap.size + 1 ≤ vx3.heap.size := by have := T.1.1; omega); refine wp_append13 _ _ 28 rfl (w.heap.size + 1) 42 i0 (.agg #[.int .i64 0, .int .i64 0]) 2 16 Tryd.underlying28 hi hz0 hz1 hz2 rfl (by decide) _ _ _ rfl T.2.1 ⟨jb, 0, none⟩ 1 1 [.int .i64 x1, .int .i64 y2] rfl rfl HN.out (slot_one _ _) (by unfold maxLen; omega) (by omega) hsz ?_; intro v' wn hown' hgrow hfr; (rw [← srow_ins M n (x1, y2)] at hown'); (obtain ⟨a', c', rfl, _, _, _⟩ := ownF_src hown'); (have T3 := T.grow hp hB hbt hgrow hown' hfr); (have KQ := T.1.kept hgrow (fun e => T.2.2.2.2.2 bt e.symm rfl)); (clear hown' hgrow hfr HN T hsz); (obtain ⟨n0, n1, n2, n3, n4, n5, n6⟩ := id KQ)
          refine hK.out _ _ ?_ (fun hHeld => ?_)
          · trivial
          clear hK K
          (try simp only [Act.put, List.setIfInBounds_toArray, List.set_cons_zero, List.set_cons_succ])
          refine wpAnyH_take (i := 10) (v := ?_) (by rw [List.getElem?_toArray]; rfl) (by kernel_rfl) (by kernel_rfl) (by kernel_rfl) (by intro _ _ _ h; exact h) (Or.inl ⟨by rfl, ?_⟩) (by assumption) ?_
          rotate_left
          · (intro w hSw; (try dsimp only at hSw); go_simp; all_goals with_reducible rfl)
          (try simp only [Act.put, List.setIfInBounds_toArray, List.set_cons_zero, List.set_cons_succ])
          refine wpAnyH_ready (rs := [11]) (by kernel_rfl) (by simp) ?_
          refine (AllReadyH.cons (by rw [List.getElem?_toArray]; rfl) (fun K hK => ?_) AllReadyH.nil)
          go_simp
          (clear n0 n1 n2 n3 n4 n5 n6 KQ); (generalize wn.setCell ⟨bt, 2, none⟩ (.slice a' (n + 1) c') = v9 at *)
          refine hK.out _ _ ?_ (fun hHeld => ?_)
          · trivial
          clear hK K
          (try simp only [Act.put, List.setIfInBounds_toArray, List.set_cons_zero, List.set_cons_succ])
          refine wpAnyH_done (by kernel_rfl) ?_ _
          go_wp2_with fail
          go_roundw
          case rel => exact ⟨a', n + 1, c', _, by go_num, by omega, T3⟩
          case measure => simp [intOf]; omega
        · go_simp
          refine (l1Below_any B p 4 _ T.2.2.1).mono ?_; rintro e vx1 ⟨x1, rfl, x1l, x1h, x1p, _, cc, bb⟩; (clear n0 n1 n2 n3 n4 n5 n6); (have x1q := x1p (by omega)); (replace T := T.but cc bb hp hbt); (clear cc bb x1p); (obtain ⟨n0, n1, n2, n3, n4, n5, n6⟩ := id T.1)
          (try go_wp2_with fail)
          refine hK.out _ _ ?_ (fun hHeld => ?_)
          · trivial
          clear hK K
          (try simp only [Act.put, List.setIfInBounds_toArray, List.set_cons_zero, List.set_cons_succ])
          refine wpAnyH_ready (rs := [1, 5]) (by kernel_rfl) (by simp) ?_
          refine (AllReadyH.cons (by rw [List.getElem?_toArray]; rfl) (fun K hK => ?_) (AllReadyH.cons (by rw [List.getElem?_toArray]; rfl) (fun K hK => ?_) AllReadyH.nil))
          · go_simp
            refine hK.out _ _ ?_ (fun hHeld => ?_)
            · trivial
            clear hK K
            (try simp only [Act.put, List.setIfInBounds_toArray, List.set_cons_zero, List.set_cons_succ])
            refine wpAnyH_ready (rs := [5]) (by kernel_rfl) (by simp) ?_
            refine (AllReadyH.cons (by rw [List.getElem?_toArray]; rfl) (fun K hK => ?_) AllReadyH.nil)
            go_simp
            refine (l1Below_any B p 60 _ T.2.2.1).mono ?_; rintro e vx2 ⟨x2, rfl, x2l, x2h, x2p, _, cc, bb⟩; (clear n0 n1 n2 n3 n4 n5 n6); (have x2q := x2p (by omega)); (replace T := T.but cc bb hp hbt); (clear cc bb x2p); (obtain ⟨n0, n1, n2, n3, n4, n5, n6⟩ := id T.1)
            (try go_wp2_with fail)
            refine hK.out _ _ ?_ (fun hHeld => ?_)
            · trivial
            clear hK K
            (try simp only [Act.put, List.setIfInBounds_toArray, List.set_cons_zero, List.set_cons_succ])
            refine wpAnyH_take (i := 6) (v := ?_) (by rw [List.getElem?_toArray]; rfl) (by kernel_rfl) (by kernel_rfl) (by kernel_rfl) (by intro _ _ _ h; exact h) (Or.inl ⟨by rfl, ?_⟩) (by assumption) ?_
            rotate_left
            · (intro w hSw; (try dsimp only at hSw); go_simp; all_goals with_reducible rfl)
            (try simp only [Act.put, List.setIfInBounds_toArray, List.set_cons_zero, List.set_cons_succ])
            refine wpAnyH_take (i := 7) (v := ?_) (by rw [List.getElem?_toArray]; rfl) (by kernel_rfl) (by kernel_rfl) (by kernel_rfl) (by intro _ _ _ h; exact h) (Or.inl ⟨by rfl, ?_⟩) (by assumption) ?_
            rotate_left
            · (intro w hSw; (try dsimp only at hSw); go_simp; all_goals with_reducible rfl)
            (try simp only [Act.put, List.setIfInBounds_toArray, List.set_cons_zero, List.set_cons_succ])
            refine wpAnyH_ready (rs := [8]) (by kernel_rfl) (by simp) ?_
            refine (AllReadyH.cons (by rw [List.getElem?_toArray]; rfl) (fun K hK => ?_) AllReadyH.nil)
            go_simp
            (clear n0 n1 n2 n3 n4 n5 n6); (generalize IntKind.i64.wrap (1 + x2) = y2 at *); (have A6 := Below.nw vx2 (.cells #[.int .i64 x1, .int .i64 y2] 42)); (have HN : Hid (∀ j u, [Value.int .i64 x1, .int .i64 y2][j]? = some u → (vx2.alloc (.cells #[.int .i64 x1, .int .i64 y2] 42)).cell? ((⟨vx2.heap.size, 0, none⟩ : Addr).add j) = some u) := slot_at vx2 x1 y2); (replace T := T.below A6); (clear A6); (generalize vx2.heap.size = jb at *); (generalize vx2.alloc (.cells #[.int .i64 x1, .int .i64 y2] 42) = vx3 at *); (obtain ⟨n0, n1, n2, n3, n4, n5, n6⟩ := id T.1)
            refine hK.out _ _ ?_ (fun hHeld => ?_)
            · trivial
            clear hK K
            (try simp only [Act.put, List.setIfInBounds_toArray, List.set_cons_zero, List.set_cons_succ])
            refine wpAnyH_ready (rs := [9]) (by kernel_rfl) (by simp) ?_
            refine (AllReadyH.cons (by rw [List.getElem?_toArray]; rfl) (fun K hK => ?_) AllReadyH.nil)
            rw [if_pos (by rfl)]; (clear n0 n1 n2 n3 n4 n5 n6); (have hsz : w.heap.size + 1 ≤ vx3.heap.size := by have := T.1.1; omega); refine wp_append13 _ _ 28 rfl (w.heap.size + 1) 42 i0 (.agg #[.int .i64 0, .int .i64 0]) 2 16 Tryd.underlying28 hi hz0 hz1 hz2 rfl (by decide) _ _ _ rfl T.2.1 ⟨jb, 0, none⟩ 1 1 [.int .i64 x1, .int .i64 y2] rfl rfl HN.out (slot_one _ _) (by unfold maxLen; omega) (by omega) hsz ?_; intro v' wn hown' hgrow hfr; (rw [← srow_ins M n (x1, y2)] at hown'); (obtain ⟨a', c', rfl, _, _, _⟩ := ownF_src hown'); (have T3 := T.grow hp hB hbt hgrow hown' hfr); (have KQ := T.1.kept hgrow (fun e => T.2.2.2.2.2 bt e.symm rfl)); (clear hown' hgrow hfr HN T hsz); (obtain ⟨n0, n1, n2, n3, n4, n5, n6⟩ := id KQ)
            refine hK.out _ _ ?_ (fun hHeld => ?_)
            · trivial
            clear hK K
            (try simp only [Act.put, List.setIfInBounds_toArray, List.set_cons_zero, List.set_cons_succ])
            refine wpAnyH_take (i := 10) (v := ?_) (by rw [List.getElem?_toArray]; rfl) (by kernel_rfl) (by kernel_rfl) (by kernel_rfl) (by intro _ _ _ h; exact h) (Or.inl ⟨by rfl, ?_⟩) (by assumption) ?_
            rotate_left
            · (intro w hSw; (try dsimp only at hSw); go_simp; all_goals with_reducible rfl)
            (try simp only [Act.put, List.setIfInBounds_toArray, List.set_cons_zero, List.set_cons_succ])
            refine wpAnyH_ready (rs := [11]) (by kernel_rfl) (by simp) ?_
            refine (AllReadyH.cons (by rw [List.getElem?_toArray]; rfl) (fun K hK => ?_) AllReadyH.nil)
            go_simp
            (clear n0 n1 n2 n3 n4 n5 n6 KQ); (generalize wn.setCell ⟨bt, 2, none⟩ (.slice a' (n + 1) c') = v9 at *)
            refine hK.out _ _ ?_ (fun hHeld => ?_)
            · trivial
            clear hK K
            (try simp only [Act.put, List.setIfInBounds_toArray, List.set_cons_zero, List.set_cons_succ])
            refine wpAnyH_done (by kernel_rfl) ?_ _
            go_wp2_with fail
            go_roundw
            case rel => exact ⟨a', n + 1, c', _, by go_num, by omega, T3⟩
            case measure => simp [intOf]; omega
          · go_simp
            refine (l1Below_any B p 60 _ T.2.2.1).mono ?_; rintro e vx2 ⟨x2, rfl, x2l, x2h, x2p, _, cc, bb⟩; (clear n0 n1 n2 n3 n4 n5 n6); (have x2q := x2p (by omega)); (replace T := T.but cc bb hp hbt); (clear cc bb x2p); (obtain ⟨n0, n1, n2, n3, n4, n5, n6⟩ := id T.1)
            (try go_wp2_with fail)
            refine hK.out _ _ ?_ (fun hHeld => ?_)
            · trivial
            clear hK K
            (try simp only [Act.put, List.setIfInBounds_toArray, List.set_cons_zero, List.set_cons_succ])
            refine wpAnyH_take (i := 6) (v := ?_) (by rw [List.getElem?_toArray]; rfl) (by kernel_rfl) (by kernel_rfl) (by kernel_rfl) (by intro _ _ _ h; exact h) (Or.inl ⟨by rfl, ?_⟩) (by assumption) ?_
            rotate_left
            · (intro w hSw; (try dsimp only at hSw); go_simp; all_goals with_reducible rfl)
            (try simp only [Act.put, List.setIfInBounds_toArray, List.set_cons_zero, List.set_cons_succ])
            refine wpAnyH_take (i := 7) (v := ?_) (by rw [List.getElem?_toArray]; rfl) (by kernel_rfl) (by kernel_rfl) (by kernel_rfl) (by intro _ _ _ h; exact h) (Or.inl ⟨by rfl, ?_⟩) (by assumption) ?_
            rotate_left
            · (intro w hSw; (try dsimp only at hSw); go_simp; all_goals with_reducible rfl)
            (try simp only [Act.put, List.setIfInBounds_toArray, List.set_cons_zero, List.set_cons_succ])
            refine wpAnyH_ready (rs := [1, 8]) (by kernel_rfl) (by simp) ?_
            refine (AllReadyH.cons (by rw [List.getElem?_toArray]; rfl) (fun K hK => ?_) (AllReadyH.cons (by rw [List.getElem?_toArray]; rfl) (fun K hK => ?_) AllReadyH.nil))
            · go_simp
              refine hK.out _ _ ?_ (fun hHeld => ?_)
              · trivial
              clear hK K
              (try simp only [Act.put, List.setIfInBounds_toArray, List.set_cons_zero, List.set_cons_succ])
              refine wpAnyH_ready (rs := [8]) (by kernel_rfl) (by simp) ?_
              refine (AllReadyH.cons (by rw [List.getElem?_toArray]; rfl) (fun K hK => ?_) AllReadyH.nil)
              go_simp
              (clear n0 n1 n2 n3 n4 n5 n6); (generalize IntKind.i64.wrap (1 + x2) = y2 at *); (have A6 := Below.nw vx2 (.cells #[.int .i64 x1, .int .i64 y2] 42)); (have HN : Hid (∀ j u, [Value.int .i64 x1, .int .i64 y2][j]? = some u → (vx2.alloc (.cells #[.int .i64 x1, .int .i64 y2] 42)).cell? ((⟨vx2.heap.size, 0, none⟩ : Addr).add j) = some u) := slot_at vx2 x1 y2); (replace T := T.below A6); (clear A6); (generalize vx2.heap.size = jb at *); (generalize vx2.alloc (.cells #[.int .i64 x1, .int .i64 y2] 42) = vx3 at *); (obtain ⟨n0, n1, n2, n3, n4, n5, n6⟩ := id T.1)
              refine hK.out _ _ ?_ (fun hHeld => ?_)
              · trivial
              clear hK K
              (try simp only [Act.put, List.setIfInBounds_toArray, List.set_cons_zero, List.set_cons_succ])
              refine wpAnyH_ready (rs := [9]) (by kernel_rfl) (by simp) ?_
              refine (AllReadyH.cons (by rw [List.getElem?_toArray]; rfl) (fun K hK => ?_) AllReadyH.nil)
              rw [if_pos (by rfl)]; (clear n0 n1 n2 n3 n4 n5 n6); (have hsz : w.heap.size + 1 ≤ vx3.heap.size := by have := T.1.1; omega); refine wp_append13 _ _ 28 rfl (w.heap.size + 1) 42 i0 (.agg #[.int .i64 0, .int .i64 0]) 2 16 Tryd.underlying28 hi hz0 hz1 hz2 rfl (by decide) _ _ _ rfl T.2.1 ⟨jb, 0, none⟩ 1 1 [.int .i64 x1, .int .i64 y2] rfl rfl HN.out (slot_one _ _) (by unfold maxLen; omega) (by omega) hsz ?_; intro v' wn hown' hgrow hfr; (rw [← srow_ins M n (x1, y2)] at hown'); (obtain ⟨a', c', rfl, _, _, _⟩ := ownF_src hown'); (have T3 := T.grow hp hB hbt hgrow hown' hfr); (have KQ := T.1.kept hgrow (fun e => T.2.2.2.2.2 bt e.symm rfl)); (clear hown' hgrow hfr HN T hsz); (obtain ⟨n0, n1, n2, n3, n4, n5, n6⟩ := id KQ)
              refine hK.out _ _ ?_ (fun hHeld => ?_)
              · trivial
              clear hK K
              (try simp only [Act.put, List.setIfInBounds_toArray, List.set_cons_zero, List.set_cons_succ])
              refine wpAnyH_take (i := 10) (v := ?_) (by rw [List.getElem?_toArray]; rfl) (by kernel_rfl) (by kernel_rfl) (by kernel_rfl) (by intro _ _ _ h; exact h) (Or.inl ⟨by rfl, ?_⟩) (by assumption) ?_
              rotate_left
              · (intro w hSw; (try dsimp only at hSw); go_simp; all_goals with_reducible rfl)
              (try simp only [Act.put, List.setIfInBounds_toArray, List.set_cons_zero, List.set_cons_succ])
              refine wpAnyH_ready (rs := [11]) (by kernel_rfl) (by simp) ?_
              refine (AllReadyH.cons (by rw [List.getElem?_toArray]; rfl) (fun K hK => ?_) AllReadyH.nil)
              go_simp
              (clear n0 n1 n2 n3 n4 n5 n6 KQ); (generalize wn.setCell ⟨bt, 2, none⟩ (.slice a' (n + 1) c') = v9 at *)
              refine hK.out _ _ ?_ (fun hHeld => ?_)
              · trivial
              clear hK K
              (try simp only [Act.put, List.setIfInBounds_toArray, List.set_cons_zero, List.set_cons_succ])
              refine wpAnyH_done (by kernel_rfl) ?_ _
              go_wp2_with fail
              go_roundw
              case rel => exact ⟨a', n + 1, c', _, by go_num, by omega, T3⟩
              case measure => simp [intOf]; omega
            · go_simp
              (clear n0 n1 n2 n3 n4 n5 n6); (generalize IntKind.i64.wrap (1 + x2) = y2 at *); (have A6 := Below.nw vx2 (.cells #[.int .i64 x1, .int .i64 y2] 42)); (have HN : Hid (∀ j u, [Value.int .i64 x1, .int .i64 y2][j]? = some u → (vx2.alloc (.cells #[.int .i64 x1, .int .i64 y2] 42)).cell? ((⟨vx2.heap.size, 0, none⟩ : Addr).add j) = some u) := slot_at vx2 x1 y2); (replace T := T.below A6); (clear A6); (generalize vx2.heap.size = jb at *); (generalize vx2.alloc (.cells #[.int .i64 x1, .int .i64 y2] 42) = vx3 at *); (obtain ⟨n0, n1, n2, n3, n4, n5, n6⟩ := id T.1)
              refine hK.out _ _ ?_ (fun hHeld => ?_)
              · trivial
              clear hK K
              (try simp only [Act.put, List.setIfInBounds_toArray, List.set_cons_zero, List.set_cons_succ])
              refine wpAnyH_ready (rs := [1]) (by kernel_rfl) (by simp) ?_
              refine (AllReadyH.cons (by rw [List.getElem?_toArray]; rfl) (fun K hK => ?_) AllReadyH.nil)
              go_simp
              refine hK.out _ _ ?_ (fun hHeld => ?_)
              · trivial
              clear hK K
              (try simp only [Act.put, List.setIfInBounds_toArray, List.set_cons_zero, List.set_cons_succ])
              refine wpAnyH_ready (rs := [9]) (by kernel_rfl) (by simp) ?_
              refine (AllReadyH.cons (by rw [List.getElem?_toArray]; rfl) (fun K hK => ?_) AllReadyH.nil)
              rw [if_pos (by rfl)]; (clear n0 n1 n2 n3 n4 n5 n6); (have hsz : w.heap.size + 1 ≤ vx3.heap.size := by have := T.1.1; omega); refine wp_append13 _ _ 28 rfl (w.heap.size + 1) 42 i0 (.agg #[.int .i64 0, .int .i64 0]) 2 16 Tryd.underlying28 hi hz0 hz1 hz2 rfl (by decide) _ _ _ rfl T.2.1 ⟨jb, 0, none⟩ 1 1 [.int .i64 x1, .int .i64 y2] rfl rfl HN.out (slot_one _ _) (by unfold maxLen; omega) (by omega) hsz ?_; intro v' wn hown' hgrow hfr; (rw [← srow_ins M n (x1, y2)] at hown'); (obtain ⟨a', c', rfl, _, _, _⟩ := ownF_src hown'); (have T3 := T.grow hp hB hbt hgrow hown' hfr); (have KQ := T.1.kept hgrow (fun e => T.2.2.2.2.2 bt e.symm rfl)); (clear hown' hgrow hfr HN T hsz); (obtain ⟨n0, n1, n2, n3, n4, n5, n6⟩ := id KQ)
              refine hK.out _ _ ?_ (fun hHeld => ?_)
              · trivial
              clear hK K
              (try simp only [Act.put, List.setIfInBounds_toArray, List.set_cons_zero, List.set_cons_succ])
              refine wpAnyH_take (i := 10) (v := ?_) (by rw [List.getElem?_toArray]; rfl) (by kernel_rfl) (by kernel_rfl) (by kernel_rfl) (by intro _ _ _ h; exact h) (Or.inl ⟨by rfl, ?_⟩) (by assumption) ?_
              rotate_left
              · (intro w hSw; (try dsimp only at hSw); go_simp; all_goals with_reducible rfl)
              (try simp only [Act.put, List.setIfInBounds_toArray, List.set_cons_zero, List.set_cons_succ])
              refine wpAnyH_ready (rs := [11]) (by kernel_rfl) (by simp) ?_
              refine (AllReadyH.cons (by rw [List.getElem?_toArray]; rfl) (fun K hK => ?_) AllReadyH.nil)
              go_simp
              (clear n0 n1 n2 n3 n4 n5 n6 KQ); (generalize wn.setCell ⟨bt, 2, none⟩ (.slice a' (n + 1) c') = v9 at *)
              refine hK.out _ _ ?_ (fun hHeld => ?_)
              · trivial
              clear hK K
              (try simp only [Act.put, List.setIfInBounds_toArray, List.set_cons_zero, List.set_cons_succ])
              refine wpAnyH_done (by kernel_rfl) ?_ _
              go_wp2_with fail
              go_roundw
              case rel => exact ⟨a', n + 1, c', _, by go_num, by omega, T3⟩
              case measure => simp [intOf]; omega
      · have hkn : n = N := by omega
        subst hkn
        have hli : ¬ (n : Int) < (n : Int) := by omega
        have RS := T.result hp hB (u0 := .int .i64 s) (u1 := .int .i64 g) (u2 := .slice A n c)
        have RR := ((T.2.2.2.2.1.set0 (.int .i64 s)).set1 (.int .i64 g)).set2 (.slice A n c)
        obtain ⟨n0, n1, n2, n3, n4, n5, n6⟩ := id T.1
        obtain ⟨r0, r1, r2, r3, r4, r5, r6⟩ := id T.2.2.2.2.1
        go_wp2_with fail
        clear n0 n1 n2 n3 n4 n5 n6
        clear r0 r1 r2 r3 r4 r5 r6
        generalize ((wr.setCell ⟨w.heap.size, 0, none⟩ (.int .i64 s)).setCell ⟨w.heap.size, 1, none⟩ (.int .i64 g)).setCell ⟨w.heap.size, 2, none⟩ (.slice A n c) = vz at *
        obtain ⟨r0, r1, r2, r3, r4, r5, r6⟩ := id RR
        exact bodyPost_ret (v := (.agg #[.int .i64 s, .int .i64 g, .slice A n c])) (by simp (maxDischargeDepth := 6) [results, Tryd.results78, go_sem, *]) rfl ⟨s, g, A, n, c, M, rfl, hN2.2, fun _ => hN2.1, RS⟩
  · go_upto_region 5 with fail
    have hN0 : (0 : Int) ≤ 12 := by omega
    have hN1 : 1 ≤ (12 : Int) ∧ (12 : Int) ≤ 12 := by omega
    clear hm ml
    have hN2 : 1 ≤ 12 ∧ 12 ≤ 12 := by omega
    clear hN0 hN1
    go_wp2_with fail
    go_loopw [5] (fun i wr => ∃ (A : Option Addr) (n c : Nat) (M : Nat → SlT), i = .int .i64 (n : Int) ∧ n ≤ 12 ∧ Pw w B p bt wr s g A n c M) (fun i _ => 12 - (intOf i).toNat)
    case atStart => exact ⟨none, 0, 0, fun _ => zSl, rfl, Nat.zero_le _, T⟩
    case round =>
      clear T
      obtain ⟨A, n, c, M, rfl, hn, T⟩ := hrel
      by_cases hlt : n < 12
      · have hli : (n : Int) < (12 : Int) := by omega
        obtain ⟨n0, n1, n2, n3, n4, n5, n6⟩ := id T.1
        go_upto_region 8 with fail
        refine wp_region_held_drew (S := (fun _ => True)) (by kernel_rfl) ?_ (fun hHeld => ?_)
        · trivial
        clear n0 n1 n2 n3 n4 n5 n6
        replace T := T.drew
        generalize wr.drew = vx at *
        (obtain ⟨n0, n1, n2, n3, n4, n5, n6⟩ := id T.1)
        refine wpAnyH_take (i := 0) (v := ?_) (by rw [List.getElem?_toArray]; rfl) (by kernel_rfl) (by kernel_rfl) (by kernel_rfl) (by intro _ _ _ h; exact h) (Or.inl ⟨by rfl, ?_⟩) (by assumption) ?_
        rotate_left
        · (intro w hSw; (try dsimp only at hSw); go_simp; all_goals with_reducible rfl)
        (try simp only [Act.put, List.setIfInBounds_toArray, List.set_cons_zero, List.set_cons_succ])
        refine wpAnyH_take (i := 2) (v := ?_) (by rw [List.getElem?_toArray]; rfl) (by kernel_rfl) (by kernel_rfl) (by kernel_rfl) (by intro _ _ _ h; exact h) (Or.inl ⟨by rfl, ?_⟩) (by assumption) ?_
        rotate_left
        · (intro w hSw; (try dsimp only at hSw); go_simp; all_goals with_reducible rfl)
        (try simp only [Act.put, List.setIfInBounds_toArray, List.set_cons_zero, List.set_cons_succ])
        refine wpAnyH_take (i := 4) (v := ?_) (by rw [List.getElem?_toArray]; rfl) (by kernel_rfl) (by kernel_rfl) (by kernel_rfl) (by intro _ _ _ h; exact h) (Or.inl ⟨by rfl, ?_⟩) (by assumption) ?_
        rotate_left
        · (intro w hSw; (try dsimp only at hSw); go_simp; all_goals with_reducible rfl)
        (try simp only [Act.put, List.setIfInBounds_toArray, List.set_cons_zero, List.set_cons_succ])
        refine wpAnyH_ready (rs := [1, 3]) (by kernel_rfl) (by simp) ?_
        refine (AllReadyH.cons (by rw [List.getElem?_toArray]; rfl) (fun K hK => ?_) (AllReadyH.cons (by rw [List.getElem?_toArray]; rfl) (fun K hK => ?_) AllReadyH.nil))
        · go_simp
          refine hK.out _ _ ?_ (fun hHeld => ?_)
          · trivial
          clear hK K
          (try simp only [Act.put, List.setIfInBounds_toArray, List.set_cons_zero, List.set_cons_succ])
          refine wpAnyH_ready (rs := [3]) (by kernel_rfl) (by simp) ?_
          refine (AllReadyH.cons (by rw [List.getElem?_toArray]; rfl) (fun K hK => ?_) AllReadyH.nil)
          go_simp
          refine (l1Below_any B p 4 _ T.2.2.1).mono ?_; rintro e vx1 ⟨x1, rfl, x1l, x1h, x1p, _, cc, bb⟩; (clear n0 n1 n2 n3 n4 n5 n6); (have x1q := x1p (by omega)); (replace T := T.but cc bb hp hbt); (clear cc bb x1p); (obtain ⟨n0, n1, n2, n3, n4, n5, n6⟩ := id T.1)
          (try go_wp2_with fail)
          refine hK.out _ _ ?_ (fun hHeld => ?_)
          · trivial
          clear hK K
          (try simp only [Act.put, List.setIfInBounds_toArray, List.set_cons_zero, List.set_cons_succ])
          refine wpAnyH_ready (rs := [5]) (by kernel_rfl) (by simp) ?_
          refine (AllReadyH.cons (by rw [List.getElem?_toArray]; rfl) (fun K hK => ?_) AllReadyH.nil)
          go_simp
          refine (l1Below_any B p 60 _ T.2.2.1).mono ?_; rintro e vx2 ⟨x2, rfl, x2l, x2h, x2p, _, cc, bb⟩; (clear n0 n1 n2 n3 n4 n5 n6); (have x2q := x2p (by omega)); (replace T := T.but cc bb hp hbt); (clear cc bb x2p); (obtain ⟨n0, n1, n2, n3, n4, n5, n6⟩ := id T.1)
          (try go_wp2_with fail)
          refine hK.out _ _ ?_ (fun hHeld => ?_)
          · trivial
          clear hK K
          (try simp only [Act.put, List.setIfInBounds_toArray, List.set_cons_zero, List.set_cons_succ])
          refine wpAnyH_take (i := 6) (v := ?_) (by rw [List.getElem?_toArray]; rfl) (by kernel_rfl) (by kernel_rfl) (by kernel_rfl) (by intro _ _ _ h; exact h) (Or.inl ⟨by rfl, ?_⟩) (by assumption) ?_
          rotate_left
          · (intro w hSw; (try dsimp only at hSw); go_simp; all_goals with_reducible rfl)
          (try simp only [Act.put, List.setIfInBounds_toArray, List.set_cons_zero, List.set_cons_succ])
          refine wpAnyH_take (i := 7) (v := ?_) (by rw [List.getElem?_toArray]; rfl) (by kernel_rfl) (by kernel_rfl) (by kernel_rfl) (by intro _ _ _ h; exact h) (Or.inl ⟨by rfl, ?_⟩) (by assumption) ?_
          rotate_left
          · (intro w hSw; (try dsimp only at hSw); go_simp; all_goals with_reducible rfl)
          (try simp only [Act.put, List.setIfInBounds_toArray, List.set_cons_zero, List.set_cons_succ])
          refine wpAnyH_ready (rs := [8]) (by kernel_rfl) (by simp) ?_
          refine (AllReadyH.cons (by rw [List.getElem?_toArray]; rfl) (fun K hK => ?_) AllReadyH.nil)
          go_simp
          (clear n0 n1 n2 n3 n4 n5 n6); (generalize IntKind.i64.wrap (1 + x2) = y2 at *); (have A6 := Below.nw vx2 (.cells #[.int .i64 x1, .int .i64 y2] 42)); (have HN : Hid (∀ j u, [Value.int .i64 x1, .int .i64 y2][j]? = some u → (vx2.alloc (.cells #[.int .i64 x1, .int .i64 y2] 42)).cell? ((⟨vx2.heap.size, 0, none⟩ : Addr).add j) = some u) := slot_at vx2 x1 y2); (replace T := T.below A6); (clear A6); (generalize vx2.heap.size = jb at *); (generalize vx2.alloc (.cells #[.int .i64 x1, .int .i64 y2] 42) = vx3 at *); (obtain ⟨n0, n1, n2, n3, n4, n5, n6⟩ := id T.1)
          refine hK.out _ _ ?_ (fun hHeld => ?_)
          · trivial
          clear hK K
          (try simp only [Act.put, List.setIfInBounds_toArray, List.set_cons_zero, List.set_cons_succ])
          refine wpAnyH_ready (rs := [9]) (by kernel_rfl) (by simp) ?_
          refine (AllReadyH.cons (by rw [List.getElem?_toArray]; rfl) (fun K hK => ?_) AllReadyH.nil)
          rw [if_pos (by rfl)]; (clear n0 n1 n2 n3 n4 n5 n6); (have hsz : w.heap.size + 1 ≤ vx3.heap.size := by have := T.1.1; omega); refine wp_append13 _ _ 28 rfl (w.heap.size + 1) 42 i0 (.agg #[.int .i64 0, .int .i64 0]) 2 16 Tryd.underlying28 hi hz0 hz1 hz2 rfl (by decide) _ _ _ rfl T.2.1 ⟨jb, 0, none⟩ 1 1 [.int .i64 x1, .int .i64 y2] rfl rfl HN.out (slot_one _ _) (by unfold maxLen; omega) (by omega) hsz ?_; intro v' wn hown' hgrow hfr; (rw [← srow_ins M n (x1, y2)] at hown'); (obtain ⟨a', c', rfl, _, _, _⟩ := ownF_src hown'); (have T3 := T.grow hp hB hbt hgrow hown' hfr); (have KQ := T.1.kept hgrow (fun e => T.2.2.2.2.2 bt e.symm rfl)); (clear hown' hgrow hfr HN T hsz); (obtain ⟨n0, n1, n2, n3, n4, n5, n6⟩ := id KQ)
          refine hK.out _ _ ?_ (fun hHeld => ?_)
          · trivial
          clear hK K
          (try simp only [Act.put, List.setIfInBounds_toArray, List.set_cons_zero, List.set_cons_succ])
          refine wpAnyH_take (i := 10) (v := ?_) (by rw [List.getElem?_toArray]; rfl) (by kernel_rfl) (by kernel_rfl) (by kernel_rfl) (by intro _ _ _ h; exact h) (Or.inl ⟨by rfl, ?_⟩) (by assumption) ?_
          rotate_left
          · (intro w hSw; (try dsimp only at hSw); go_simp; all_goals with_reducible rfl)
          (try simp only [Act.put, List.setIfInBounds_toArray, List.set_cons_zero, List.set_cons_succ])
          refine wpAnyH_ready (rs := [11]) (by kernel_rfl) (by simp) ?_
          refine (AllReadyH.cons (by rw [List.getElem?_toArray]; rfl) (fun K hK => ?_) AllReadyH.nil)
          go_simp
          (clear n0 n1 n2 n3 n4 n5 n6 KQ); (generalize wn.setCell ⟨bt, 2, none⟩ (.slice a' (n + 1) c') = v9 at *)
          refine hK.out _ _ ?_ (fun hHeld => ?_)
          · trivial
          clear hK K
          (try simp only [Act.put, List.setIfInBounds_toArray, List.set_cons_zero, List.set_cons_succ])
          refine wpAnyH_done (by kernel_rfl) ?_ _
          go_wp2_with fail
          go_roundw
          case rel => exact ⟨a', n + 1, c', _, by go_num, by omega, T3⟩
          case measure => simp [intOf]; omega
        · go_simp
          refine (l1Below_any B p 4 _ T.2.2.1).mono ?_; rintro e vx1 ⟨x1, rfl, x1l, x1h, x1p, _, cc, bb⟩; (clear n0 n1 n2 n3 n4 n5 n6); (have x1q := x1p (by omega)); (replace T := T.but cc bb hp hbt); (clear cc bb x1p); (obtain ⟨n0, n1, n2, n3, n4, n5, n6⟩ := id T.1)
          (try go_wp2_with fail)
          refine hK.out _ _ ?_ (fun hHeld => ?_)
          · trivial
          clear hK K
          (try simp only [Act.put, List.setIfInBounds_toArray, List.set_cons_zero, List.set_cons_succ])
          refine wpAnyH_ready (rs := [1, 5]) (by kernel_rfl) (by simp) ?_
          refine (AllReadyH.cons (by rw [List.getElem?_toArray]; rfl) (fun K hK => ?_) (AllReadyH.cons (by rw [List.getElem?_toArray]; rfl) (fun K hK => ?_) AllReadyH.nil))
          · go_simp
            refine hK.out _ _ ?_ (fun hHeld => ?_)
            · trivial
            clear hK K
            (try simp only [Act.put, List.setIfInBounds_toArray, List.set_cons_zero, List.set_cons_succ])
            refine wpAnyH_ready (rs := [5]) (by kernel_rfl) (by simp) ?_
            refine (AllReadyH.cons (by rw [List.getElem?_toArray]; rfl) (fun K hK => ?_) AllReadyH.nil)
            go_simp
            refine (l1Below_any B p 60 _ T.2.2.1).mono ?_; rintro e vx2 ⟨x2, rfl, x2l, x2h, x2p, _, cc, bb⟩; (clear n0 n1 n2 n3 n4 n5 n6); (have x2q := x2p (by omega)); (replace T := T.but cc bb hp hbt); (clear cc bb x2p); (obtain ⟨n0, n1, n2, n3, n4, n5, n6⟩ := id T.1)
            (try go_wp2_with fail)
            refine hK.out _ _ ?_ (fun hHeld => ?_)
            · trivial
            clear hK K
            (try simp only [Act.put, List.setIfInBounds_toArray, List.set_cons_zero, List.set_cons_succ])
            refine wpAnyH_take (i := 6) (v := ?_) (by rw [List.getElem?_toArray]; rfl) (by kernel_rfl) (by kernel_rfl) (by kernel_rfl) (by intro _ _ _ h; exact h) (Or.inl ⟨by rfl, ?_⟩) (by assumption) ?_
            rotate_left
            · (intro w hSw; (try dsimp only at hSw); go_simp; all_goals with_reducible rfl)
            (try simp only [Act.put, List.setIfInBounds_toArray, List.set_cons_zero, List.set_cons_succ])
            refine wpAnyH_take (i := 7) (v := ?_) (by rw [List.getElem?_toArray]; rfl) (by kernel_rfl) (by kernel_rfl) (by kernel_rfl) (by intro _ _ _ h; exact h) (Or.inl ⟨by rfl, ?_⟩) (by assumption) ?_
            rotate_left
            · (intro w hSw; (try dsimp only at hSw); go_simp; all_goals with_reducible rfl)
            (try simp only [Act.put, List.setIfInBounds_toArray, List.set_cons_zero, List.set_cons_succ])
            refine wpAnyH_ready (rs := [8]) (by kernel_rfl) (by simp) ?_
            refine (AllReadyH.cons (by rw [List.getElem?_toArray]; rfl) (fun K hK => ?_) AllReadyH.nil)
            go_simp
            (clear n0 n1 n2 n3 n4 n5 n6); (generalize IntKind.i64.wrap (1 + x2) = y2 at *); (have A6 := Below.nw vx2 (.cells #[.int .i64 x1, .int .i64 y2] 42)); (have HN : Hid (∀ j u, [Value.int .i64 x1, .int .i64 y2][j]? = some u → (vx2.alloc (.cells #[.int .i64 x1, .int .i64 y2] 42)).cell? ((⟨vx2.heap.size, 0, none⟩ : Addr).add j) = some u) := slot_at vx2 x1 y2); (replace T := T.below A6); (clear A6); (generalize vx2.heap.size = jb at *); (generalize vx2.alloc (.cells #[.int .i64 x1, .int .i64 y2] 42) = vx3 at *); (obtain ⟨n0, n1, n2, n3, n4, n5, n6⟩ := id T.1)
            refine hK.out _ _ ?_ (fun hHeld => ?_)
            · trivial
            clear hK K
            (try simp only [Act.put, List.setIfInBounds_toArray, List.set_cons_zero, List.set_cons_succ])
            refine wpAnyH_ready (rs := [9]) (by kernel_rfl) (by simp) ?_
            refine (AllReadyH.cons (by rw [List.getElem?_toArray]; rfl) (fun K hK => ?_) AllReadyH.nil)
            rw [if_pos (by rfl)]; (clear n0 n1 n2 n3 n4 n5 n6); (have hsz : w.heap.size + 1 ≤ vx3.heap.size := by have := T.1.1; omega); refine wp_append13 _ _ 28 rfl (w.heap.size + 1) 42 i0 (.agg #[.int .i64 0, .int .i64 0]) 2 16 Tryd.underlying28 hi hz0 hz1 hz2 rfl (by decide) _ _ _ rfl T.2.1 ⟨jb, 0, none⟩ 1 1 [.int .i64 x1, .int .i64 y2] rfl rfl HN.out (slot_one _ _) (by unfold maxLen; omega) (by omega) hsz ?_; intro v' wn hown' hgrow hfr; (rw [← srow_ins M n (x1, y2)] at hown'); (obtain ⟨a', c', rfl, _, _, _⟩ := ownF_src hown'); (have T3 := T.grow hp hB hbt hgrow hown' hfr); (have KQ := T.1.kept hgrow (fun e => T.2.2.2.2.2 bt e.symm rfl)); (clear hown' hgrow hfr HN T hsz); (obtain ⟨n0, n1, n2, n3, n4, n5, n6⟩ := id KQ)
            refine hK.out _ _ ?_ (fun hHeld => ?_)
            · trivial
            clear hK K
            (try simp only [Act.put, List.setIfInBounds_toArray, List.set_cons_zero, List.set_cons_succ])
            refine wpAnyH_take (i := 10) (v := ?_) (by rw [List.getElem?_toArray]; rfl) (by kernel_rfl) (by kernel_rfl) (by kernel_rfl) (by intro _ _ _ h; exact h) (Or.inl ⟨by rfl, ?_⟩) (by assumption) ?_
            rotate_left
            · (intro w hSw; (try dsimp only at hSw); go_simp; all_goals with_reducible rfl)
            (try simp only [Act.put, List.setIfInBounds_toArray, List.set_cons_zero, List.set_cons_succ])
            refine wpAnyH_ready (rs := [11]) (by kernel_rfl) (by simp) ?_
            refine (AllReadyH.cons (by rw [List.getElem?_toArray]; rfl) (fun K hK => ?_) AllReadyH.nil)
            go_simp
            (clear n0 n1 n2 n3 n4 n5 n6 KQ); (generalize wn.setCell ⟨bt, 2, none⟩ (.slice a' (n + 1) c') = v9 at *)
            refine hK.out _ _ ?_ (fun hHeld => ?_)
            · trivial
            clear hK K
            (try simp only [Act.put, List.setIfInBounds_toArray, List.set_cons_zero, List.set_cons_succ])
            refine wpAnyH_done (by kernel_rfl) ?_ _
            go_wp2_with fail
            go_roundw
            case rel => exact ⟨a', n + 1, c', _, by go_num, by omega, T3⟩
            case measure => simp [intOf]; omega
          · go_simp
            refine (l1Below_any B p 60 _ T.2.2.1).mono ?_; rintro e vx2 ⟨x2, rfl, x2l, x2h, x2p, _, cc, bb⟩; (clear n0 n1 n2 n3 n4 n5 n6); (have x2q := x2p (by omega)); (replace T := T.but cc bb hp hbt); (clear cc bb x2p); (obtain ⟨n0, n1, n2, n3, n4, n5, n6⟩ := id T.1)
            (try go_wp2_with fail)
            refine hK.out _ _ ?_ (fun hHeld => ?_)
            · trivial
            clear hK K
            (try simp only [Act.put, List.setIfInBounds_toArray, List.set_cons_zero, List.set_cons_succ])
            refine wpAnyH_take (i := 6) (v := ?_) (by rw [List.getElem?_toArray]; rfl) (by kernel_rfl) (by kernel_rfl) (by kernel_rfl) (by intro _ _ _ h; exact h) (Or.inl ⟨by rfl, ?_⟩) (by assumption) ?_
            rotate_left
            · (intro w hSw; (try dsimp only at hSw); go_simp; all_goals with_reducible rfl)
            (try simp only [Act.put, List.setIfInBounds_toArray, List.set_cons_zero, List.set_cons_succ])
            refine wpAnyH_take (i := 7) (v := ?_) (by rw [List.getElem?_toArray]; rfl) (by kernel_rfl) (by kernel_rfl) (by kernel_rfl) (by intro _ _ _ h; exact h) (Or.inl ⟨by rfl, ?_⟩) (by assumption) ?_
            rotate_left
            · (intro w hSw; (try dsimp only at hSw); go_simp; all_goals with_reducible rfl)
            (try simp only [Act.put, List.setIfInBounds_toArray, List.set_cons_zero, List.set_cons_succ])
            refine wpAnyH_ready (rs := [1, 8]) (by kernel_rfl) (by simp) ?_
            refine (AllReadyH.cons (by rw [List.getElem?_toArray]; rfl) (fun K hK => ?_) (AllReadyH.cons (by rw [List.getElem?_toArray]; rfl) (fun K hK => ?_) AllReadyH.nil))
            · go_simp
              refine hK.out _ _ ?_ (fun hHeld => ?_)
              · trivial
              clear hK K
              (try simp only [Act.put, List.setIfInBounds_toArray, List.set_cons_zero, List.set_cons_succ])
              refine wpAnyH_ready (rs := [8]) (by kernel_rfl) (by simp) ?_
              refine (AllReadyH.cons (by rw [List.getElem?_toArray]; rfl) (fun K hK => ?_) AllReadyH.nil)
              go_simp
              (clear n0 n1 n2 n3 n4 n5 n6); (generalize IntKind.i64.wrap (1 + x2) = y2 at *); (have A6 := Below.nw vx2 (.cells #[.int .i64 x1, .int .i64 y2] 42)); (have HN : Hid (∀ j u, [Value.int .i64 x1, .int .i64 y2][j]? = some u → (vx2.alloc (.cells #[.int .i64 x1, .int .i64 y2] 42)).cell? ((⟨vx2.heap.size, 0, none⟩ : Addr).add j) = some u) := slot_at vx2 x1 y2); (replace T := T.below A6); (clear A6); (generalize vx2.heap.size = jb at *); (generalize vx2.alloc (.cells #[.int .i64 x1, .int .i64 y2] 42) = vx3 at *); (obtain ⟨n0, n1, n2, n3, n4, n5, n6⟩ := id T.1)
              refine hK.out _ _ ?_ (fun hHeld => ?_)
              · trivial
              clear hK K
              (try simp only [Act.put, List.setIfInBounds_toArray, List.set_cons_zero, List.set_cons_succ])
              refine wpAnyH_ready (rs := [9]) (by kernel_rfl) (by simp) ?_
              refine (AllReadyH.cons (by rw [List.getElem?_toArray]; rfl) (fun K hK => ?_) AllReadyH.nil)
              rw [if_pos (by rfl)]; (clear n0 n1 n2 n3 n4 n5 n6); (have hsz : w.heap.size + 1 ≤ vx3.heap.size := by have := T.1.1; omega); refine wp_append13 _ _ 28 rfl (w.heap.size + 1) 42 i0 (.agg #[.int .i64 0, .int .i64 0]) 2 16 Tryd.underlying28 hi hz0 hz1 hz2 rfl (by decide) _ _ _ rfl T.2.1 ⟨jb, 0, none⟩ 1 1 [.int .i64 x1, .int .i64 y2] rfl rfl HN.out (slot_one _ _) (by unfold maxLen; omega) (by omega) hsz ?_; intro v' wn hown' hgrow hfr; (rw [← srow_ins M n (x1, y2)] at hown'); (obtain ⟨a', c', rfl, _, _, _⟩ := ownF_src hown'); (have T3 := T.grow hp hB hbt hgrow hown' hfr); (have KQ := T.1.kept hgrow (fun e => T.2.2.2.2.2 bt e.symm rfl)); (clear hown' hgrow hfr HN T hsz); (obtain ⟨n0, n1, n2, n3, n4, n5, n6⟩ := id KQ)
              refine hK.out _ _ ?_ (fun hHeld => ?_)
              · trivial
              clear hK K
              (try simp only [Act.put, List.setIfInBounds_toArray, List.set_cons_zero, List.set_cons_succ])
              refine wpAnyH_take (i := 10) (v := ?_) (by rw [List.getElem?_toArray]; rfl) (by kernel_rfl) (by kernel_rfl) (by kernel_rfl) (by intro _ _ _ h; exact h) (Or.inl ⟨by rfl, ?_⟩) (by assumption) ?_
              rotate_left
              · (intro w hSw; (try dsimp only at hSw); go_simp; all_goals with_reducible rfl)
              (try simp only [Act.put, List.setIfInBounds_toArray, List.set_cons_zero, List.set_cons_succ])
              refine wpAnyH_ready (rs := [11]) (by kernel_rfl) (by simp) ?_
              refine (AllReadyH.cons (by rw [List.getElem?_toArray]; rfl) (fun K hK => ?_) AllReadyH.nil)
              go_simp
              (clear n0 n1 n2 n3 n4 n5 n6 KQ); (generalize wn.setCell ⟨bt, 2, none⟩ (.slice a' (n + 1) c') = v9 at *)
              refine hK.out _ _ ?_ (fun hHeld => ?_)
              · trivial
              clear hK K
              (try simp only [Act.put, List.setIfInBounds_toArray, List.set_cons_zero, List.set_cons_succ])
              refine wpAnyH_done (by kernel_rfl) ?_ _
              go_wp2_with fail
              go_roundw
              case rel => exact ⟨a', n + 1, c', _, by go_num, by omega, T3⟩
              case measure => simp [intOf]; omega
            · go_simp
              (clear n0 n1 n2 n3 n4 n5 n6); (generalize IntKind.i64.wrap (1 + x2) = y2 at *); (have A6 := Below.nw vx2 (.cells #[.int .i64 x1, .int .i64 y2] 42)); (have HN : Hid (∀ j u, [Value.int .i64 x1, .int .i64 y2][j]? = some u → (vx2.alloc (.cells #[.int .i64 x1, .int .i64 y2] 42)).cell? ((⟨vx2.heap.size, 0, none⟩ : Addr).add j) = some u) := slot_at vx2 x1 y2); (replace T := T.below A6); (clear A6); (generalize vx2.heap.size = jb at *); (generalize vx2.alloc (.cells #[.int .i64 x1, .int .i64 y2] 42) = vx3 at *); (obtain ⟨n0, n1, n2, n3, n4, n5, n6⟩ := id T.1)
              refine hK.out _ _ ?_ (fun hHeld => ?_)
              · trivial
              clear hK K
              (try simp only [Act.put, List.setIfInBounds_toArray, List.set_cons_zero, List.set_cons_succ])
              refine wpAnyH_ready (rs := [1]) (by kernel_rfl) (by simp) ?_
              refine (AllReadyH.cons (by rw [List.getElem?_toArray]; rfl) (fun K hK => ?_) AllReadyH.nil)
              go_simp
              refine hK.out _ _ ?_ (fun hHeld => ?_)
              · trivial
              clear hK K
              (try simp only [Act.put, List.setIfInBounds_toArray, List.set_cons_zero, List.set_cons_succ])
              refine wpAnyH_ready (rs := [9]) (by kernel_rfl) (by simp) ?_
              refine (AllReadyH.cons (by rw [List.getElem?_toArray]; rfl) (fun K hK => ?_) AllReadyH.nil)
              rw [if_pos (by rfl)]; (clear n0 n1 n2 n3 n4 n5 n6); (have hsz : w.heap.size + 1 ≤ vx3.heap.size := by have := T.1.1; omega); refine wp_append13 _ _ 28 rfl (w.heap.size + 1) 42 i0 (.agg #[.int .i64 0, .int .i64 0]) 2 16 Tryd.underlying28 hi hz0 hz1 hz2 rfl (by decide) _ _ _ rfl T.2.1 ⟨jb, 0, none⟩ 1 1 [.int .i64 x1, .int .i64 y2] rfl rfl HN.out (slot_one _ _) (by unfold maxLen; omega) (by omega) hsz ?_; intro v' wn hown' hgrow hfr; (rw [← srow_ins M n (x1, y2)] at hown'); (obtain ⟨a', c', rfl, _, _, _⟩ := ownF_src hown'); (have T3 := T.grow hp hB hbt hgrow hown' hfr); (have KQ := T.1.kept hgrow (fun e => T.2.2.2.2.2 bt e.symm rfl)); (clear hown' hgrow hfr HN T hsz); (obtain ⟨n0, n1, n2, n3, n4, n5, n6⟩ := id KQ)
              refine hK.out _ _ ?_ (fun hHeld => ?_)
              · trivial
              clear hK K
              (try simp only [Act.put, List.setIfInBounds_toArray, List.set_cons_zero, List.set_cons_succ])
              refine wpAnyH_take (i := 10) (v := ?_) (by rw [List.getElem?_toArray]; rfl) (by kernel_rfl) (by kernel_rfl) (by kernel_rfl) (by intro _ _ _ h; exact h) (Or.inl ⟨by rfl, ?_⟩) (by assumption) ?_
              rotate_left
              · (intro w hSw; (try dsimp only at hSw); go_simp; all_goals with_reducible rfl)
              (try simp only [Act.put, List.setIfInBounds_toArray, List.set_cons_zero, List.set_cons_succ])
              refine wpAnyH_ready (rs := [11]) (by kernel_rfl) (by simp) ?_
              refine (AllReadyH.cons (by rw [List.getElem?_toArray]; rfl) (fun K hK => ?_) AllReadyH.nil)
              go_simp
              (clear n0 n1 n2 n3 n4 n5 n6 KQ); (generalize wn.setCell ⟨bt, 2, none⟩ (.slice a' (n + 1) c') = v9 at *)
              refine hK.out _ _ ?_ (fun hHeld => ?_)
              · trivial
              clear hK K
              (try simp only [Act.put, List.setIfInBounds_toArray, List.set_cons_zero, List.set_cons_succ])
              refine wpAnyH_done (by kernel_rfl) ?_ _
              go_wp2_with fail
              go_roundw
              case rel => exact ⟨a', n + 1, c', _, by go_num, by omega, T3⟩
              case measure => simp [intOf]; omega
      · have hkn : n = 12 := by omega
        subst hkn
        have hli : ¬ ((12 : Nat) : Int) < (12 : Int) := by omega
        have RS := T.result hp hB (u0 := .int .i64 s) (u1 := .int .i64 g) (u2 := .slice A 12 c)
        have RR := ((T.2.2.2.2.1.set0 (.int .i64 s)).set1 (.int .i64 g)).set2 (.slice A 12 c)
        obtain ⟨n0, n1, n2, n3, n4, n5, n6⟩ := id T.1
        obtain ⟨r0, r1, r2, r3, r4, r5, r6⟩ := id T.2.2.2.2.1
        go_wp2_with fail
        clear n0 n1 n2 n3 n4 n5 n6
        clear r0 r1 r2 r3 r4 r5 r6
        generalize ((wr.setCell ⟨w.heap.size, 0, none⟩ (.int .i64 s)).setCell ⟨w.heap.size, 1, none⟩ (.int .i64 g)).setCell ⟨w.heap.size, 2, none⟩ (.slice A 12 c) = vz at *
        obtain ⟨r0, r1, r2, r3, r4, r5, r6⟩ := id RR
        exact bodyPost_ret (v := (.agg #[.int .i64 s, .int .i64 g, .slice A 12 c])) (by simp (maxDischargeDepth := 6) [results, Tryd.results78, go_sem, *]) rfl ⟨s, g, A, 12, c, M, rfl, hN2.2, fun _ => hN2.1, RS⟩
end Go.Proofs.YtcakhfobkbgfoaaDoor
namespace Go.Proofs.YtcakhfobkbgfoaaDoor
open Go.RowKit
set_option linter.unusedVariables false
theorem srow_at0 {M : Nat → SlT} {n : Nat} (hn : 1 ≤ n) : (srow M n)[0]? = some (.int .i64 (M 0).1) := by
  rw [srow, List.getElem?_map, List.getElem?_range (by omega)]
  rfl
theorem srow_at1 {M : Nat → SlT} {n : Nat} (hn : 1 ≤ n) : (srow M n)[1]? = some (.int .i64 (M 0).2) := by
  rw [srow, List.getElem?_map, List.getElem?_range (by omega)]
  rfl
theorem srow_set {M : Nat → SlT} {n j : Nat} {q : SlT} {u : Value} (hn : 1 ≤ n) (hj : j < 2) (hu : MCSlot q j = u) (ho : MCSlot q (1 - j) = MCSlot (M 0) (1 - j)) : (srow M n).set j u = srow (updS M q) n := by
  apply List.ext_getElem?
  intro i
  rw [List.getElem?_set, srow_len]
  by_cases hi : i < n * 2
  · rw [srow, srow, List.getElem?_map, List.getElem?_map, List.getElem?_range hi]
    by_cases e : j = i
    · subst e
      rw [if_pos rfl, if_pos hi]
      show some u = some (MCSlot (updS M q (j / 2)) (j % 2))
      rw [show j / 2 = 0 by omega, show j % 2 = j by omega, updS, if_pos rfl, hu]
    · rw [if_neg e]
      show some (MCSlot (M (i / 2)) (i % 2)) = some (MCSlot (updS M q (i / 2)) (i % 2))
      by_cases h0 : i / 2 = 0
      · rw [h0, updS, if_pos rfl, show i % 2 = 1 - j by omega, ho]
      · rw [updS, if_neg h0]
  · by_cases e : j = i
    · omega
    · rw [if_neg e, List.getElem?_eq_none (by rw [srow_len]; omega), List.getElem?_eq_none (by rw [srow_len]; omega)]
def lenAt (w : World) (j : Nat) : Nat := match w.cell? ⟨j, 2, none⟩ with | some (.slice _ n _) => n | _ => 0
theorem lenAt_is {w : World} {j : Nat} {a : Option Addr} {n c : Nat} (h : w.cell? ⟨j, 2, none⟩ = some (.slice a n c)) : lenAt w j = n := by unfold lenAt; rw [h]
section
variable {w0 w : World} {B p bt gb : Nat} {s g : Int} {n c : Nat} {M : Nat → SlT}
theorem Pw.putAt {j : Nat} {u : Value} {q : SlT} (h : Pw w0 B p bt w s g (some ⟨gb, 0, none⟩) n c M) (hp : p < w0.heap.size) (hn : 1 ≤ n) (hj : j < 2) (hgb : gb ≠ bt) (hu : MCSlot q j = u) (ho : MCSlot q (1 - j) = MCSlot (M 0) (1 - j)) : Pw w0 B p bt (w.setCell ⟨gb, j, none⟩ u) s g (some ⟨gb, 0, none⟩) n c (updS M q) := by
  have hl := World.ownsRow.lt h.2.1 gb (by simp [Value.ownBlock])
  have hO := (World.ownsRow.stored h.2.1 j u).1
  rw [srow_set hn hj hu ho] at hO
  have hc := h.2.2.1.lt
  have hb := But.one13 w gb j u
  have hpw := h.2.2.2.1
  exact ⟨h.1.but hb (Ne.symm hgb), hO, h.2.2.1.below13 (hb.below (B := w0.heap.size + 1) (by omega) (by omega)) (by omega), h.2.2.2.1.new13 hb (by omega), h.2.2.2.2.1.but hb (by omega), h.2.2.2.2.2⟩
theorem Pw.put0 (h : Pw w0 B p bt w s g (some ⟨gb, 0, none⟩) n c M) (hp : p < w0.heap.size) (hn : 1 ≤ n) (hgb : gb ≠ bt) (y : Int) : Pw w0 B p bt (w.setCell ⟨gb, 0, none⟩ (.int .i64 y)) s g (some ⟨gb, 0, none⟩) n c (updS M (y, (M 0).2)) := h.putAt hp hn (by decide) hgb rfl rfl
theorem Pw.put1 (h : Pw w0 B p bt w s g (some ⟨gb, 0, none⟩) n c M) (hp : p < w0.heap.size) (hn : 1 ≤ n) (hgb : gb ≠ bt) (y : Int) : Pw w0 B p bt (w.setCell ⟨gb, 1, none⟩ (.int .i64 y)) s g (some ⟨gb, 0, none⟩) n c (updS M ((M 0).1, y)) := h.putAt hp hn (by decide) hgb rfl rfl
end
set_option maxRecDepth 100000 in
set_option maxHeartbeats 16000000 in
theorem l13DrawAny_any (B p : Nat) (w : World) (hcur : CurOk w B p) :
    Calls Tryd.prog 37 #[.pointer (some ⟨p, 0, none⟩)] w fun e w' => PlanDrawn 13 w B p e w' := by
  obtain ⟨i0, hi, hz0, hz1, hz2⟩ := info13_parts
  have hpl := hcur.lt
  have hp : p < w.heap.size := hpl.1
  have hB : B ≤ p := hpl.2
  have hpw : w.heap.size ≠ p := by omega
  have A1 := Below.nw w (.cells #[.int .i64 0, .int .i64 0, .slice none 0 0] 30)
  have R := Tx3.new w (.int .i64 0) (.int .i64 0) (.slice none 0 0) 30
  have cc0 := hcur.below A1
  have b0 : But p w _ := But.of_below A1
  have hsz : (w.alloc (.cells #[.int .i64 0, .int .i64 0, .slice none 0 0] 30)).heap.size = w.heap.size + 1 := by simp
  clear A1 hcur hpl
  go_enter Tryd.func37, Tryd.ntmps37
  go_upto_region 1 with fail
  generalize w.alloc (.cells #[.int .i64 0, .int .i64 0, .slice none 0 0] 30) = v at *
  go_wp2_with fail
  refine (l13DrawPlan_any B p _ cc0).mono ?_
  rintro e v1 ⟨s, g, A, n, c, M, rfl, hn12, hn1, OW, cc, bb⟩
  replace hn1 := hn1 rfl
  rw [hsz] at OW
  replace R := R.but bb hpw
  replace b0 := b0.trans bb
  clear bb cc0 hsz
  have A2 := Below.nw v1 (.cells #[.int .i64 s, .int .i64 g, .slice A n c] 30)
  have T : Pw w B p v1.heap.size (v1.alloc (.cells #[.int .i64 s, .int .i64 g, .slice A n c] 30)) s g A n c M := ⟨Tx3.new v1 _ _ _ _, own_belK' OW A2, cc.below A2, b0.trans (But.of_below A2), R.below A2, fun q hq => Nat.ne_of_lt (World.ownsRow.lt OW q hq).2⟩
  have hbt : w.heap.size < v1.heap.size := R.1
  clear A2 b0 R cc OW
  go_upto_region 2 with fail
  generalize v1.heap.size = bt at *
  generalize v1.alloc (.cells #[.int .i64 s, .int .i64 g, .slice A n c] 30) = v2 at *
  go_wp2_with fail
  refine (l1Below_any B p 25 _ T.2.2.1).mono ?_; rintro e v3 ⟨r, rfl, rl, rh, rp, rz, cc, bb⟩; replace T := T.but cc bb hp hbt; clear cc bb rz
  clear rp rh rl
  by_cases h0 : r = 0
  · subst h0
    go_wp2_with fail
    refine (l2DrawCount_any B p _ T.2.2.1).mono ?_
    rintro e v4 ⟨y, rfl, cc, bb⟩
    replace T := T.but cc bb hp hbt
    clear cc bb
    have T2 := T.set0 hp hB hbt y
    obtain ⟨n0, n1, n2, n3, n4, n5, n6⟩ := id T.1
    go_upto_region 16 with fail
    clear n0 n1 n2 n3 n4 n5 n6
    generalize v4.setCell ⟨bt, 0, none⟩ (.int .i64 y) = v5 at *
    clear T
    have T := T2
    clear T2
    have RS := T.result hp hB (u0 := .int .i64 y) (u1 := .int .i64 g) (u2 := .slice A n c)
    have RR := ((T.2.2.2.2.1.set0 (.int .i64 y)).set1 (.int .i64 g)).set2 (.slice A n c)
    obtain ⟨n0, n1, n2, n3, n4, n5, n6⟩ := id T.1
    obtain ⟨r0, r1, r2, r3, r4, r5, r6⟩ := id T.2.2.2.2.1
    go_wp2_with fail
    clear n0 n1 n2 n3 n4 n5 n6
    clear r0 r1 r2 r3 r4 r5 r6
    generalize ((v5.setCell ⟨w.heap.size, 0, none⟩ (.int .i64 y)).setCell ⟨w.heap.size, 1, none⟩ (.int .i64 g)).setCell ⟨w.heap.size, 2, none⟩ (.slice A n c) = vz at *
    obtain ⟨r0, r1, r2, r3, r4, r5, r6⟩ := id RR
    exact bodyPost_ret (v := (.agg #[.int .i64 y, .int .i64 g, .slice A n c])) (by simp (maxDischargeDepth := 6) [results, Tryd.results37, go_sem, *]) rfl ⟨y, g, A, n, c, M, rfl, by omega, fun q => absurd q (by decide), RS⟩
  by_cases h1 : r = 1
  · subst h1
    go_wp2_with fail
    have hpk := pickLit B p v3 [-1, 100000, 100001] T.2.2.1 (by simp) (by simp); simp only [List.map_cons, List.map_nil, List.length_cons, List.length_nil, Nat.zero_add, Nat.reduceAdd] at hpk; refine hpk.mono ?_; clear hpk; rintro e v4 ⟨y, rfl, cc, bb⟩
    replace T := T.but cc bb hp hbt
    clear cc bb
    have T2 := T.set1 hp hB hbt y
    obtain ⟨n0, n1, n2, n3, n4, n5, n6⟩ := id T.1
    go_upto_region 16 with fail
    clear n0 n1 n2 n3 n4 n5 n6
    generalize v4.setCell ⟨bt, 1, none⟩ (.int .i64 y) = v5 at *
    clear T
    have T := T2
    clear T2
    have RS := T.result hp hB (u0 := .int .i64 s) (u1 := .int .i64 y) (u2 := .slice A n c)
    have RR := ((T.2.2.2.2.1.set0 (.int .i64 s)).set1 (.int .i64 y)).set2 (.slice A n c)
    obtain ⟨n0, n1, n2, n3, n4, n5, n6⟩ := id T.1
    obtain ⟨r0, r1, r2, r3, r4, r5, r6⟩ := id T.2.2.2.2.1
    go_wp2_with fail
    clear n0 n1 n2 n3 n4 n5 n6
    clear r0 r1 r2 r3 r4 r5 r6
    generalize ((v5.setCell ⟨w.heap.size, 0, none⟩ (.int .i64 s)).setCell ⟨w.heap.size, 1, none⟩ (.int .i64 y)).setCell ⟨w.heap.size, 2, none⟩ (.slice A n c) = vz at *
    obtain ⟨r0, r1, r2, r3, r4, r5, r6⟩ := id RR
    exact bodyPost_ret (v := (.agg #[.int .i64 s, .int .i64 y, .slice A n c])) (by simp (maxDischargeDepth := 6) [results, Tryd.results37, go_sem, *]) rfl ⟨s, y, A, n, c, M, rfl, by omega, fun q => absurd q (by decide), RS⟩
  by_cases h2 : r = 2
  · subst h2
    obtain ⟨gb, rfl, hgb⟩ : ∃ gb, A = some ⟨gb, 0, none⟩ ∧ gb ≠ bt := by
      rcases T.2.1.2 with ⟨he, h0⟩ | ⟨gb, cap, cur, he, _⟩
      · omega
      · simp at he
        obtain ⟨rfl, rfl⟩ := he
        exact ⟨gb, rfl, T.2.2.2.2.2 gb (by simp [Value.ownBlock])⟩
    have hn1i : 0 < n := hn1
    obtain ⟨n0, n1, n2, n3, n4, n5, n6⟩ := id T.1
    go_upto_region 8 with fail
    refine wp_region_held_drew (S := (fun w' => w'.cell? ⟨bt, 2, none⟩ = some (.slice (some ⟨gb, 0, none⟩) n c))) (by kernel_rfl) ?_ (fun hHeld => ?_)
    · first | exact n3 | (simp (maxDischargeDepth := 6) [go_sem, *]; done)
    clear n0 n1 n2 n3 n4 n5 n6
    replace T := T.drew
    generalize v3.drew = vx at *
    (obtain ⟨n0, n1, n2, n3, n4, n5, n6⟩ := id T.1)
    refine wpAnyH_take (i := 0) (v := ?_) (by rw [List.getElem?_toArray]; rfl) (by kernel_rfl) (by kernel_rfl) (by kernel_rfl) (by intro _ _ _ h; exact h) (Or.inl ⟨by rfl, ?_⟩) (by assumption) ?_
    rotate_left
    · (intro w hSw; (try dsimp only at hSw); go_simp; all_goals with_reducible rfl)
    (try simp only [Act.put, List.setIfInBounds_toArray, List.set_cons_zero, List.set_cons_succ])
    refine wpAnyH_take (i := 1) (v := ?_) (by rw [List.getElem?_toArray]; rfl) (by kernel_rfl) (by kernel_rfl) (by kernel_rfl) (by intro _ _ _ h; exact h) (Or.inl ⟨by rfl, ?_⟩) (by assumption) ?_
    rotate_left
    · (intro w hSw; (try dsimp only at hSw); go_simp; all_goals with_reducible rfl)
    (try simp only [Act.put, List.setIfInBounds_toArray, List.set_cons_zero, List.set_cons_succ])
    refine wpAnyH_take (i := 2) (v := ?_) (by rw [List.getElem?_toArray]; rfl) (by kernel_rfl) (by kernel_rfl) (by kernel_rfl) (by intro _ _ _ h; exact h) (Or.inl ⟨by rfl, ?_⟩) (by assumption) ?_
    rotate_left
    · (intro w hSw; (try dsimp only at hSw); go_simp; all_goals with_reducible rfl)
    (try simp only [Act.put, List.setIfInBounds_toArray, List.set_cons_zero, List.set_cons_succ])
    refine wpAnyH_ready (rs := [3]) (by kernel_rfl) (by simp) ?_
    refine (AllReadyH.cons (by rw [List.getElem?_toArray]; rfl) (fun K hK => ?_) AllReadyH.nil)
    go_simp
    skip
    refine hK.out _ _ ?_ (fun hHeld => ?_)
    · first | exact n3 | (simp (maxDischargeDepth := 6) [go_sem, *]; done)
    clear hK K
    (try simp only [Act.put, List.setIfInBounds_toArray, List.set_cons_zero, List.set_cons_succ])
    refine wpAnyH_ready (rs := [4]) (by kernel_rfl) (by simp) ?_
    refine (AllReadyH.cons (by rw [List.getElem?_toArray]; rfl) (fun K hK => ?_) AllReadyH.nil)
    go_simp
    (clear n0 n1 n2 n3 n4 n5 n6); have hpk := pickLit B p vx [-1, 8, 7] T.2.2.1 (by simp) (by simp); simp only [List.map_cons, List.map_nil, List.length_cons, List.length_nil, Nat.zero_add, Nat.reduceAdd] at hpk; refine hpk.mono ?_; clear hpk; rintro e v4 ⟨y, rfl, cc, bb⟩; (replace T := T.but cc bb hp hbt); (clear cc bb); (have FE := World.ownsRow.frozenAt T.2.1 0); (have hce : v4.cell? ⟨gb, 0, none⟩ = some (.int .i64 (M 0).1) := (World.ownsRow.cellAt T.2.1 0 (by omega)).trans (srow_at0 hn1)); (obtain ⟨n0, n1, n2, n3, n4, n5, n6⟩ := id T.1)
    (try go_wp2_with fail)
    refine hK.out _ _ ?_ (fun hHeld => ?_)
    · first | exact n3 | (simp (maxDischargeDepth := 6) [go_sem, *]; done)
    clear hK K
    (try simp only [Act.put, List.setIfInBounds_toArray, List.set_cons_zero, List.set_cons_succ])
    refine wpAnyH_take (i := 5) (v := ?_) (by rw [List.getElem?_toArray]; rfl) (by kernel_rfl) (by kernel_rfl) (by kernel_rfl) (by intro _ _ _ h; exact h) (Or.inl ⟨by rfl, ?_⟩) (by assumption) ?_
    rotate_left
    · (intro w hSw; (try dsimp only at hSw); go_simp; all_goals with_reducible rfl)
    (try simp only [Act.put, List.setIfInBounds_toArray, List.set_cons_zero, List.set_cons_succ])
    refine wpAnyH_take (i := 6) (v := ?_) (by rw [List.getElem?_toArray]; rfl) (by kernel_rfl) (by kernel_rfl) (by kernel_rfl) (by intro _ _ _ h; exact h) (Or.inl ⟨by rfl, ?_⟩) (by assumption) ?_
    rotate_left
    · (intro w hSw; (try dsimp only at hSw); go_simp; all_goals with_reducible rfl)
    (try simp only [Act.put, List.setIfInBounds_toArray, List.set_cons_zero, List.set_cons_succ])
    refine wpAnyH_ready (rs := [7]) (by kernel_rfl) (by simp) ?_
    refine (AllReadyH.cons (by rw [List.getElem?_toArray]; rfl) (fun K hK => ?_) AllReadyH.nil)
    go_simp
    (clear n0 n1 n2 n3 n4 n5 n6); (clear FE hce); (have T2 := T.put0 hp hn1 hgb y); (generalize v4.setCell ⟨gb, 0, none⟩ (.int .i64 y) = v5 at *); (obtain ⟨n0, n1, n2, n3, n4, n5, n6⟩ := id T2.1)
    refine hK.out _ _ ?_ (fun hHeld => ?_)
    · first | exact n3 | (simp (maxDischargeDepth := 6) [go_sem, *]; done)
    clear hK K
    (try simp only [Act.put, List.setIfInBounds_toArray, List.set_cons_zero, List.set_cons_succ])
    refine wpAnyH_done (by kernel_rfl) ?_ _
    clear n0 n1 n2 n3 n4 n5 n6 T
    have T := T2
    clear T2
    have RS := T.result hp hB (u0 := .int .i64 s) (u1 := .int .i64 g) (u2 := .slice (some ⟨gb, 0, none⟩) n c)
    have RR := ((T.2.2.2.2.1.set0 (.int .i64 s)).set1 (.int .i64 g)).set2 (.slice (some ⟨gb, 0, none⟩) n c)
    obtain ⟨n0, n1, n2, n3, n4, n5, n6⟩ := id T.1
    obtain ⟨r0, r1, r2, r3, r4, r5, r6⟩ := id T.2.2.2.2.1
    go_wp2_with fail
    clear n0 n1 n2 n3 n4 n5 n6
    clear r0 r1 r2 r3 r4 r5 r6
    generalize ((v5.setCell ⟨w.heap.size, 0, none⟩ (.int .i64 s)).setCell ⟨w.heap.size, 1, none⟩ (.int .i64 g)).setCell ⟨w.heap.size, 2, none⟩ (.slice (some ⟨gb, 0, none⟩) n c) = vz at *
    obtain ⟨r0, r1, r2, r3, r4, r5, r6⟩ := id RR
    exact bodyPost_ret (v := (.agg #[.int .i64 s, .int .i64 g, .slice (some ⟨gb, 0, none⟩) n c])) (by simp (maxDischargeDepth := 6) [results, Tryd.results37, go_sem, *]) rfl ⟨s, g, (some ⟨gb, 0, none⟩), n, c, (updS M (y, (M 0).2)), rfl, by omega, fun q => absurd q (by decide), RS⟩
  by_cases h3 : r = 3
  · subst h3
    obtain ⟨gb, rfl, hgb⟩ : ∃ gb, A = some ⟨gb, 0, none⟩ ∧ gb ≠ bt := by
      rcases T.2.1.2 with ⟨he, h0⟩ | ⟨gb, cap, cur, he, _⟩
      · omega
      · simp at he
        obtain ⟨rfl, rfl⟩ := he
        exact ⟨gb, rfl, T.2.2.2.2.2 gb (by simp [Value.ownBlock])⟩
    have hn1i : 0 < n := hn1
    obtain ⟨n0, n1, n2, n3, n4, n5, n6⟩ := id T.1
    go_upto_region 10 with fail
    refine wp_region_held_drew (S := (fun w' => w'.cell? ⟨bt, 2, none⟩ = some (.slice (some ⟨gb, 0, none⟩) n c))) (by kernel_rfl) ?_ (fun hHeld => ?_)
    · first | exact n3 | (simp (maxDischargeDepth := 6) [go_sem, *]; done)
    clear n0 n1 n2 n3 n4 n5 n6
    replace T := T.drew
    generalize v3.drew = vx at *
    (obtain ⟨n0, n1, n2, n3, n4, n5, n6⟩ := id T.1)
    refine wpAnyH_take (i := 0) (v := ?_) (by rw [List.getElem?_toArray]; rfl) (by kernel_rfl) (by kernel_rfl) (by kernel_rfl) (by intro _ _ _ h; exact h) (Or.inl ⟨by rfl, ?_⟩) (by assumption) ?_
    rotate_left
    · (intro w hSw; (try dsimp only at hSw); go_simp; all_goals with_reducible rfl)
    (try simp only [Act.put, List.setIfInBounds_toArray, List.set_cons_zero, List.set_cons_succ])
    refine wpAnyH_take (i := 1) (v := ?_) (by rw [List.getElem?_toArray]; rfl) (by kernel_rfl) (by kernel_rfl) (by kernel_rfl) (by intro _ _ _ h; exact h) (Or.inl ⟨by rfl, ?_⟩) (by assumption) ?_
    rotate_left
    · (intro w hSw; (try dsimp only at hSw); go_simp; all_goals with_reducible rfl)
    (try simp only [Act.put, List.setIfInBounds_toArray, List.set_cons_zero, List.set_cons_succ])
    refine wpAnyH_take (i := 2) (v := ?_) (by rw [List.getElem?_toArray]; rfl) (by kernel_rfl) (by kernel_rfl) (by kernel_rfl) (by intro _ _ _ h; exact h) (Or.inl ⟨by rfl, ?_⟩) (by assumption) ?_
    rotate_left
    · (intro w hSw; (try dsimp only at hSw); go_simp; all_goals with_reducible rfl)
    (try simp only [Act.put, List.setIfInBounds_toArray, List.set_cons_zero, List.set_cons_succ])
    refine wpAnyH_ready (rs := [3]) (by kernel_rfl) (by simp) ?_
    refine (AllReadyH.cons (by rw [List.getElem?_toArray]; rfl) (fun K hK => ?_) AllReadyH.nil)
    go_simp
    skip
    refine hK.out _ _ ?_ (fun hHeld => ?_)
    · first | exact n3 | (simp (maxDischargeDepth := 6) [go_sem, *]; done)
    clear hK K
    (try simp only [Act.put, List.setIfInBounds_toArray, List.set_cons_zero, List.set_cons_succ])
    refine wpAnyH_ready (rs := [4]) (by kernel_rfl) (by simp) ?_
    refine (AllReadyH.cons (by rw [List.getElem?_toArray]; rfl) (fun K hK => ?_) AllReadyH.nil)
    go_simp
    (clear n0 n1 n2 n3 n4 n5 n6); have hpk := pickLit B p vx [0, 1000000, 1000001] T.2.2.1 (by simp) (by simp); simp only [List.map_cons, List.map_nil, List.length_cons, List.length_nil, Nat.zero_add, Nat.reduceAdd] at hpk; refine hpk.mono ?_; clear hpk; rintro e v4 ⟨y, rfl, cc, bb⟩; (replace T := T.but cc bb hp hbt); (clear cc bb); (have FE := World.ownsRow.frozenAt T.2.1 1); (have hce : v4.cell? ⟨gb, 1, none⟩ = some (.int .i64 (M 0).2) := (World.ownsRow.cellAt T.2.1 1 (by omega)).trans (srow_at1 hn1)); (obtain ⟨n0, n1, n2, n3, n4, n5, n6⟩ := id T.1)
    (try go_wp2_with fail)
    refine hK.out _ _ ?_ (fun hHeld => ?_)
    · first | exact n3 | (simp (maxDischargeDepth := 6) [go_sem, *]; done)
    clear hK K
    (try simp only [Act.put, List.setIfInBounds_toArray, List.set_cons_zero, List.set_cons_succ])
    refine wpAnyH_take (i := 5) (v := ?_) (by rw [List.getElem?_toArray]; rfl) (by kernel_rfl) (by kernel_rfl) (by kernel_rfl) (by intro _ _ _ h; exact h) (Or.inl ⟨by rfl, ?_⟩) (by assumption) ?_
    rotate_left
    · (intro w hSw; (try dsimp only at hSw); go_simp; all_goals with_reducible rfl)
    (try simp only [Act.put, List.setIfInBounds_toArray, List.set_cons_zero, List.set_cons_succ])
    refine wpAnyH_take (i := 6) (v := ?_) (by rw [List.getElem?_toArray]; rfl) (by kernel_rfl) (by kernel_rfl) (by kernel_rfl) (by intro _ _ _ h; exact h) (Or.inl ⟨by rfl, ?_⟩) (by assumption) ?_
    rotate_left
    · (intro w hSw; (try dsimp only at hSw); go_simp; all_goals with_reducible rfl)
    (try simp only [Act.put, List.setIfInBounds_toArray, List.set_cons_zero, List.set_cons_succ])
    refine wpAnyH_ready (rs := [7]) (by kernel_rfl) (by simp) ?_
    refine (AllReadyH.cons (by rw [List.getElem?_toArray]; rfl) (fun K hK => ?_) AllReadyH.nil)
    go_simp
    (clear n0 n1 n2 n3 n4 n5 n6); (clear FE hce); (have T2 := T.put1 hp hn1 hgb y); (generalize v4.setCell ⟨gb, 1, none⟩ (.int .i64 y) = v5 at *); (obtain ⟨n0, n1, n2, n3, n4, n5, n6⟩ := id T2.1)
    refine hK.out _ _ ?_ (fun hHeld => ?_)
    · first | exact n3 | (simp (maxDischargeDepth := 6) [go_sem, *]; done)
    clear hK K
    (try simp only [Act.put, List.setIfInBounds_toArray, List.set_cons_zero, List.set_cons_succ])
    refine wpAnyH_done (by kernel_rfl) ?_ _
    clear n0 n1 n2 n3 n4 n5 n6 T
    have T := T2
    clear T2
    have RS := T.result hp hB (u0 := .int .i64 s) (u1 := .int .i64 g) (u2 := .slice (some ⟨gb, 0, none⟩) n c)
    have RR := ((T.2.2.2.2.1.set0 (.int .i64 s)).set1 (.int .i64 g)).set2 (.slice (some ⟨gb, 0, none⟩) n c)
    obtain ⟨n0, n1, n2, n3, n4, n5, n6⟩ := id T.1
    obtain ⟨r0, r1, r2, r3, r4, r5, r6⟩ := id T.2.2.2.2.1
    go_wp2_with fail
    clear n0 n1 n2 n3 n4 n5 n6
    clear r0 r1 r2 r3 r4 r5 r6
    generalize ((v5.setCell ⟨w.heap.size, 0, none⟩ (.int .i64 s)).setCell ⟨w.heap.size, 1, none⟩ (.int .i64 g)).setCell ⟨w.heap.size, 2, none⟩ (.slice (some ⟨gb, 0, none⟩) n c) = vz at *
    obtain ⟨r0, r1, r2, r3, r4, r5, r6⟩ := id RR
    exact bodyPost_ret (v := (.agg #[.int .i64 s, .int .i64 g, .slice (some ⟨gb, 0, none⟩) n c])) (by simp (maxDischargeDepth := 6) [results, Tryd.results37, go_sem, *]) rfl ⟨s, g, (some ⟨gb, 0, none⟩), n, c, (updS M ((M 0).1, y)), rfl, by omega, fun q => absurd q (by decide), RS⟩
  by_cases h4 : r = 4
  · subst h4
    have T2 := T.empty hp hB hbt (fun _ => zSl)
    obtain ⟨n0, n1, n2, n3, n4, n5, n6⟩ := id T.1
    go_upto_region 16 with fail
    clear n0 n1 n2 n3 n4 n5 n6
    generalize v3.setCell ⟨bt, 2, none⟩ (.slice none 0 0) = v5 at *
    clear T
    have T := T2
    clear T2
    have RS := T.result hp hB (u0 := .int .i64 s) (u1 := .int .i64 g) (u2 := .slice none 0 0)
    have RR := ((T.2.2.2.2.1.set0 (.int .i64 s)).set1 (.int .i64 g)).set2 (.slice none 0 0)
    obtain ⟨n0, n1, n2, n3, n4, n5, n6⟩ := id T.1
    obtain ⟨r0, r1, r2, r3, r4, r5, r6⟩ := id T.2.2.2.2.1
    go_wp2_with fail
    clear n0 n1 n2 n3 n4 n5 n6
    clear r0 r1 r2 r3 r4 r5 r6
    generalize ((v5.setCell ⟨w.heap.size, 0, none⟩ (.int .i64 s)).setCell ⟨w.heap.size, 1, none⟩ (.int .i64 g)).setCell ⟨w.heap.size, 2, none⟩ (.slice none 0 0) = vz at *
    obtain ⟨r0, r1, r2, r3, r4, r5, r6⟩ := id RR
    exact bodyPost_ret (v := (.agg #[.int .i64 s, .int .i64 g, .slice none 0 0])) (by simp (maxDischargeDepth := 6) [results, Tryd.results37, go_sem, *]) rfl ⟨s, g, none, 0, 0, (fun _ => zSl), rfl, by omega, fun q => absurd q (by decide), RS⟩
  by_cases h5 : r = 5
  · subst h5
    go_wp2_with fail
    have hn13 : n ≤ 13 := by omega
    clear hn12 hn1
    go_loopw [] (fun wr => ∃ (A : Option Addr) (n c : Nat) (M : Nat → SlT), n ≤ 13 ∧ Pw w B p bt wr s g A n c M) (fun wr => 13 - lenAt wr bt)
    case atStart => exact ⟨A, n, c, M, hn13, T⟩
    case round =>
      clear T hn13
      obtain ⟨A, n, c, M, hn13, T⟩ := hrel
      have hlen : lenAt wr bt = n := lenAt_is T.1.2.2.2.1
      by_cases hlt : n ≤ 12
      · have hli : (n : Int) ≤ (12 : Int) := by omega
        have own1 := World.ownsRow.alloc T.2.1 (.cells #[.int .i64 0, .int .i64 1] 42)
        have A6 := Below.nw wr (.cells #[.int .i64 0, .int .i64 1] 42)
        have T2 := T.below A6
        have HN2 : Hid (∀ j u, [Value.int .i64 0, .int .i64 1][j]? = some u → (wr.alloc (.cells #[.int .i64 0, .int .i64 1] 42)).cell? ((⟨wr.heap.size, 0, none⟩ : Addr).add j) = some u) := slot_at wr 0 1
        have hs6 : w.heap.size + 1 ≤ (wr.alloc (.cells #[.int .i64 0, .int .i64 1] 42)).heap.size := by have := A6.size; have := T.1.1; omega
        obtain ⟨n0, n1, n2, n3, n4, n5, n6⟩ := id T.1
        go_wp2_with (at_builtin; refine wpList_append_new rfl _ _ 28 rfl (w.heap.size + 1) 42 i0 (.agg #[.int .i64 0, .int .i64 0]) 2 16 Tryd.underlying28 hi hz0 hz1 hz2 rfl (by decide) _ _ _ rfl own1 ⟨wr.heap.size, 0, none⟩ 1 1 [.int .i64 0, .int .i64 1] rfl rfl HN2.out (slot_one _ _) (by unfold maxLen; omega) (by omega) hs6 ?_; intro vq wq hown2 hgrow hfr; (rw [← srow_ins M n (0, 1)] at hown2); (obtain ⟨a3, c3, rfl, _, _, _⟩ := ownF_src hown2); (have T3 := T2.grow hp hB hbt hgrow hown2 hfr); (have KQ := T2.1.kept hgrow (fun e => T2.2.2.2.2.2 bt e.symm rfl)); clear n0 n1 n2 n3 n4 n5 n6; (clear hown2 hgrow hfr own1 HN2 A6 T2 hs6); (obtain ⟨n0, n1, n2, n3, n4, n5, n6⟩ := id KQ))
        go_roundw
        case rel => exact ⟨a3, n + 1, c3, _, by omega, T3⟩
        case measure => rw [hlen, lenAt_is T3.1.2.2.2.1]; omega
      · have hli : ¬ (n : Int) ≤ (12 : Int) := by omega
        have RS := T.result hp hB (u0 := .int .i64 s) (u1 := .int .i64 g) (u2 := .slice A n c)
        have RR := ((T.2.2.2.2.1.set0 (.int .i64 s)).set1 (.int .i64 g)).set2 (.slice A n c)
        obtain ⟨n0, n1, n2, n3, n4, n5, n6⟩ := id T.1
        obtain ⟨r0, r1, r2, r3, r4, r5, r6⟩ := id T.2.2.2.2.1
        go_wp2_with fail
        clear n0 n1 n2 n3 n4 n5 n6
        clear r0 r1 r2 r3 r4 r5 r6
        generalize ((wr.setCell ⟨w.heap.size, 0, none⟩ (.int .i64 s)).setCell ⟨w.heap.size, 1, none⟩ (.int .i64 g)).setCell ⟨w.heap.size, 2, none⟩ (.slice A n c) = vz at *
        obtain ⟨r0, r1, r2, r3, r4, r5, r6⟩ := id RR
        exact bodyPost_ret (v := (.agg #[.int .i64 s, .int .i64 g, .slice A n c])) (by simp (maxDischargeDepth := 6) [results, Tryd.results37, go_sem, *]) rfl ⟨s, g, A, n, c, M, rfl, by omega, fun q => absurd q (by decide), RS⟩
  · go_upto_region 16 with fail
    have RS := T.result hp hB (u0 := .int .i64 s) (u1 := .int .i64 g) (u2 := .slice A n c)
    have RR := ((T.2.2.2.2.1.set0 (.int .i64 s)).set1 (.int .i64 g)).set2 (.slice A n c)
    obtain ⟨n0, n1, n2, n3, n4, n5, n6⟩ := id T.1
    obtain ⟨r0, r1, r2, r3, r4, r5, r6⟩ := id T.2.2.2.2.1
    go_wp2_with fail
    clear n0 n1 n2 n3 n4 n5 n6
    clear r0 r1 r2 r3 r4 r5 r6
    generalize ((v3.setCell ⟨w.heap.size, 0, none⟩ (.int .i64 s)).setCell ⟨w.heap.size, 1, none⟩ (.int .i64 g)).setCell ⟨w.heap.size, 2, none⟩ (.slice A n c) = vz at *
    obtain ⟨r0, r1, r2, r3, r4, r5, r6⟩ := id RR
    exact bodyPost_ret (v := (.agg #[.int .i64 s, .int .i64 g, .slice A n c])) (by simp (maxDischargeDepth := 6) [results, Tryd.results37, go_sem, *]) rfl ⟨s, g, A, n, c, M, rfl, by omega, fun q => absurd q (by decide), RS⟩
end Go.Proofs.YtcakhfobkbgfoaaDoor
