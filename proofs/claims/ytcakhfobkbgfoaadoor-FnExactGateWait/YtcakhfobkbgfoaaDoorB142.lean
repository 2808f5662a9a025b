/- Rounds: what stands in their rows; one more occurrence behind those that stand. -/
import Derived.Test.YtcakhfobkbgfoaaDoorB141
import Derived.Test.YtcakhfobkbgfoaaDoorI105
import Derived.Laws.AppendOwn
import Derived.Laws.Tables
import Derived.Laws.CopyRow
import Derived.WalkKit
import Derived.WalkSpells
import Derived.WalkLawsBesides
import Derived.Deep.RegionHeld
namespace Go.Proofs.YtcakhfobkbgfoaaDoor
open Go.RowKit
set_option linter.unusedVariables false
/- Rounds: two rows of memory, one of occurrences, one of rounds that are cut out of it. -/
theorem run_append_at {P : Program} (w : World) (t ty e : TypeId) (i : TypeInfo) (ht : P.underlying t = some (.slice e)) (hi : P.info? e = some i)
    (g off sLen sCap : Nat) (cur : Array Value) (hg : w.heap[g]? = some (.cells cur e (0, 0)))
    (a : Addr) (m c : Nat) (news : List Value) (hl : news.length = m * i.size) (hnews : ∀ j u, news[j]? = some u → w.cell? (a.add j) = some u) (h1 : ∀ u ∈ news, u.oneCell' = true)
    (hroom : sLen + m ≤ sCap) (hfit : off + sLen * i.size + news.length ≤ cur.size) :
    (Builtin.append_ #[t, t] ty #[.slice (some ⟨g, off, none⟩) sLen sCap, .slice (some a) m c]).run P w =
      .ok (.slice (some ⟨g, off, none⟩) (sLen + m) sCap) (w.setRow g (cur.toList.take (off + sLen * i.size) ++ news ++ cur.toList.drop (off + sLen * i.size + news.length)).toArray) := by
  have hf := run_firstCells_some (P := P) w i.size m a m c news hl hnews
  have hst := run_storeCells_at P g (off + sLen * i.size) e news 0 cur w hg (by simpa using hfit) h1
  simp only [Nat.add_zero] at hst
  have had : (⟨g, off, none⟩ : Addr).add (sLen * i.size) = ⟨g, off + sLen * i.size, none⟩ := by
    unfold Addr.add
    split
    · rename_i h0; rw [h0]; rfl
    · rfl
  simp only [List.append_assoc] at hst
  simp [Builtin.append_, run_underlying ht, sizeOf, typeInfo, hi, Builtin.lenOf, hroom, hf, had, hst]
theorem RowF.splice {w : World} {b T N mm : Nat} {F : Nat → Value} {cur : Array Value} {p q : Value} (hb : w.heap[b]? = some (.cells cur T (0, 0))) (hN : cur.size = N) (hc : ∀ j, j < mm → cur[j]? = some (F j)) (h2 : mm + 2 ≤ N) (hp : F mm = p) (hq : F (mm + 1) = q) :
    RowF (w.setRow b (cur.toList.take mm ++ [p, q] ++ cur.toList.drop (mm + 2)).toArray) b T N (mm + 2) F := by
  have hl : (cur.toList.take mm ++ [p, q] ++ cur.toList.drop (mm + 2)).length = N := by simp; omega
  refine ⟨fun j => (cur.toList.take mm ++ [p, q] ++ cur.toList.drop (mm + 2)).getD j undef, ⟨_, setRow_heap w b cur _ T (0, 0) hb, by simpa using hl, fun j hj => ?_⟩, fun j hj => ?_⟩
  · have hj' : j < (cur.toList.take mm ++ [p, q] ++ cur.toList.drop (mm + 2)).length := by omega
    rw [List.getElem?_toArray]
    show _ = some (List.getD _ j undef)
    rw [List.getD_eq_getElem?_getD, List.getElem?_eq_getElem hj']
    rfl
  · show (cur.toList.take mm ++ [p, q] ++ cur.toList.drop (mm + 2)).getD j undef = F j
    rw [List.getD_eq_getElem?_getD]
    have hlt : (cur.toList.take mm).length = mm := by simp; omega
    by_cases e : j < mm
    · have hcj := hc j e
      rw [List.append_assoc, List.getElem?_append_left (by omega), List.getElem?_take, if_pos e]
      rw [← Array.getElem?_toList] at hcj
      rw [hcj]
      rfl
    · by_cases e2 : j = mm
      · subst e2
        rw [List.append_assoc, List.getElem?_append_right (by omega), hlt, Nat.sub_self]
        exact hp.symm
      · obtain rfl : j = mm + 1 := by omega
        rw [List.append_assoc, List.getElem?_append_right (by omega), hlt, show mm + 1 - mm = 1 by omega]
        exact hq.symm
theorem ival_at2 (w : World) (p q : Int) (T : TypeId) : ∀ j u, [.int .i64 p, .int .i64 q][j]? = some u → (w.alloc (.cells #[.int .i64 p, .int .i64 q] T)).cell? ((⟨w.heap.size, 0, none⟩ : Addr).add j) = some u := by
  intro j u h
  match j, h with
  | 0, h => simp at h; subst h; simp [Addr.add]
  | 1, h => simp at h; subst h; simp [Addr.add]
theorem infoV13 : ∃ i, Tryd.prog.info? 25 = some i ∧ i.zero = some (.agg #[.int .i64 0, .int .i64 0]) ∧ i.size = 2 ∧ i.bytes = 16 := by
  have h : (Tryd.prog.info? 25).map (fun i => (i.zero, i.size, i.bytes)) = some (some (.agg #[.int .i64 0, .int .i64 0]), 2, 16) := by kernel_rfl
  obtain ⟨i, hi, hz⟩ := Option.map_eq_some_iff.1 h
  simp only [Prod.mk.injEq] at hz
  exact ⟨i, hi, hz.1, hz.2.1, hz.2.2⟩
theorem infoS13 : ∃ i, Tryd.prog.info? 102 = some i ∧ i.zero = some (.slice none 0 0) ∧ i.size = 1 ∧ i.bytes = 24 := by
  have h : (Tryd.prog.info? 102).map (fun i => (i.zero, i.size, i.bytes)) = some (some (.slice none 0 0), 1, 24) := by kernel_rfl
  obtain ⟨i, hi, hz⟩ := Option.map_eq_some_iff.1 h
  simp only [Prod.mk.injEq] at hz
  exact ⟨i, hi, hz.1, hz.2.1, hz.2.2⟩
/- One more occurrence behind those that stand in a round. -/
theorem put_at {w : World} {ops : Array Oper} {rest : List Oper} {o : Oper} {a : Act} {Q : Exit → Act → World → Prop} {p q : Int} (hgd : o.guard = none) (s x : Operand)
    (ho : o.op = .call { callee := .builtin .append, args := #[s, x], argTypes := #[102, 102] }) (b off i n N mm : Nat) (F : Nat → Value) (hs : a.eval s = .slice (some ⟨b, off, none⟩) i n)
    (hx : a.eval x = .slice (some ⟨w.heap.size, 0, none⟩) 1 1) (hR : RowF w b 25 N mm F) (hmm : off + i * 2 = mm) (hN : mm + 2 ≤ N) (hin : i + 1 ≤ n) (hp : F mm = .int .i64 p) (hq : F (mm + 1) = .int .i64 q)
    (h : ∀ w', RowF w' b 25 N (mm + 2) F → But b w w' → wpList Tryd.prog ops Q rest (a.put o.dst (.slice (some ⟨b, off, none⟩) (i + 1) n)) w') :
    wpList Tryd.prog ops Q (o :: rest) a (w.alloc (.cells #[.int .i64 p, .int .i64 q] 25)) := by
  obtain ⟨i0, hi, hz0, hz1, hz2⟩ := infoV13
  have hlt := hR.lt
  obtain ⟨f, ⟨cur, hb, hsz, hc⟩, hF⟩ := hR
  have hb1 : (w.alloc (.cells #[.int .i64 p, .int .i64 q] 25)).heap[b]? = some (.cells cur 25 (0, 0)) := by
    rw [← hb]; exact (World.grownBy_alloc w _ none).block b hlt (by simp)
  have hr := run_append_at (P := Tryd.prog) (w.alloc (.cells #[.int .i64 p, .int .i64 q] 25)) 102 o.type 25 i0 Tryd.underlying102 hi b off i n cur hb1 ⟨w.heap.size, 0, none⟩ 1 1 [.int .i64 p, .int .i64 q] (by rw [hz1]; rfl) (ival_at2 w p q 25) (by intro u hu; simp at hu; rcases hu with rfl | rfl <;> rfl) hin (by rw [hz1, hmm, hsz]; simpa using hN)
  rw [hz1, hmm] at hr
  have hK := h _ (RowF.splice (p := .int .i64 p) (q := .int .i64 q) hb1 hsz (fun j hj => by rw [hc j (by omega), hF j hj]) hN hp hq) ?_
  · refine wpList_plain hgd fun _ hK' => ?_
    unfold Oper.wp execOp
    simp only [ho, resolve, invoke, builtin, Sem.run_bind, Sem.run_pure, Result.andThen_ok, List.map_toArray, List.map_cons, List.map_nil, hs, hx, hr]
    exact hK' _ _ hK
  · refine ⟨rfl, rfl, rfl, by simp, fun k hk hne => ?_⟩
    rw [setRow_other _ _ _ _ hne]
    exact (World.grownBy_alloc w _ none).block k hk (by simp)
/- What stands in the rows: when the slots of a round begin and end. -/
def rAt (s g : Int) (M : Nat → SlT) (n : Nat) (k : Int) (j : Nat) : Int := s + (k + (j : Int)) * upS g M n
def rLo (s g : Int) (M : Nat → SlT) (n : Nat) (k : Int) (q : Nat) : Int := rAt s g M n k (q / n) + upS g M (q % n)
def RF (s g : Int) (M : Nat → SlT) (n : Nat) (k : Int) (q : Nat) : Value := match q % 2 with | 0 => .int .i64 (rLo s g M n k (q / 2)) | _ => .int .i64 (rLo s g M n k (q / 2) + (M (q / 2 % n)).2)
def RG (b n : Nat) (j : Nat) : Value := .slice (some ⟨b, j * n * 2, none⟩) n n
theorem rAt_next (s g : Int) (M : Nat → SlT) (n : Nat) (k : Int) (j : Nat) : rAt s g M n k j + upS g M n = rAt s g M n k (j + 1) := by
  unfold rAt
  have : (k + ((j + 1 : Nat) : Int)) * upS g M n = (k + (j : Int)) * upS g M n + upS g M n := by
    rw [show k + ((j + 1 : Nat) : Int) = (k + (j : Int)) + 1 by omega, Int.add_mul, Int.one_mul]
  rw [this]
  omega
theorem RF_at (s g : Int) (M : Nat → SlT) (n : Nat) (k : Int) {i j : Nat} (hi : i < n) : RF s g M n k ((j * n + i) * 2) = .int .i64 (rAt s g M n k j + upS g M i) ∧ RF s g M n k ((j * n + i) * 2 + 1) = .int .i64 (rAt s g M n k j + upS g M i + (M i).2) := by
  have h1 : (j * n + i) / n = j := by
    rw [Nat.add_comm, Nat.add_mul_div_right _ _ (by omega), Nat.div_eq_of_lt hi, Nat.zero_add]
  have h2 : (j * n + i) % n = i := by
    rw [Nat.add_comm, Nat.add_mul_mod_self_right, Nat.mod_eq_of_lt hi]
  have h3 : (j * n + i) * 2 % 2 = 0 := by omega
  have h4 : (j * n + i) * 2 / 2 = j * n + i := by omega
  have h5 : ((j * n + i) * 2 + 1) % 2 = 1 := by omega
  have h6 : ((j * n + i) * 2 + 1) / 2 = j * n + i := by omega
  unfold RF rLo
  rw [h3, h4, h5, h6, h1, h2]
  exact ⟨rfl, rfl⟩
/- Where a round may begin: bounds. -/
def kOk (s g : Int) (M : Nat → SlT) (n : Nat) (k : Int) : Prop := 0 ≤ k ∧ k ≤ 1000000000000 ∧ 0 ≤ k * upS g M n ∧ k * upS g M n ≤ 1000000000000
theorem rAt_bd {s g : Int} {M : Nat → SlT} {n : Nat} {k : Int} {j : Nat} (hp : plB s g M n = true) (hk : kOk s g M n k) (hj : j ≤ 2) : 0 ≤ rAt s g M n k j ∧ rAt s g M n k j ≤ 2000026400000 := by
  obtain ⟨p1, p2, p3, p4⟩ := plB_t hp
  have hr := rn_bd hp
  obtain ⟨k1, k2, k3, k4⟩ := hk
  unfold rAt
  rw [Int.add_mul]
  have : 0 ≤ (j : Int) * upS g M n ∧ (j : Int) * upS g M n ≤ 2 * upS g M n := ⟨Int.mul_nonneg (by omega) (by omega), Int.mul_le_mul_of_nonneg_right (by omega) (by omega)⟩
  omega
def Rd (w : World) (b1 b2 m n : Nat) (F : Nat → Value) : Prop := Cs w b2 0 m (RG b1 n) ∧ Cs w b1 0 (m * n * 2) F
end Go.Proofs.YtcakhfobkbgfoaaDoor
