/- Hear in the specification. Rows copied whole: slots, truths, numbers,  -/
import Derived.Lib.MinMax
import Derived.Lib.SmallJoins
import Derived.Test.YtddijpjgkifngaaGreatMN26
import Derived.Test.YtddijpjgkifngaaGreatMN28
namespace Go.Proofs.YtddijpjgkifngaaGreat
open Go.RowKit
set_option linter.unusedVariables false
set_option maxRecDepth 100000
set_option maxHeartbeats 16000000
theorem aU (b off j : Nat) : (⟨b, off, none⟩ : Addr).add j = ⟨b, off + j, none⟩ := by
 unfold Addr.add
 split
 ·next h => subst h; rfl
 ·rfl
def nzA (i : Int) : Array Value := ndV (zX (nwN i) 0 0 0 0 (nwS i)) none 0 none 0 none 0
def nzX (i : Nat) : NdX := zX (nwN (i : Int)) 0 0 0 0 (nwS (i : Int))
def nzC (i : Nat) : Nat → Value
 | 0 => .int .i64 (nwN (i : Int))
 | 4 => .bool false
 | 10 => .slice none 0 0
 | 11 => .slice none 0 0
 | 12 => .bool false
 | 14 => .slice none 0 0
 | 15 => .int .i64 (nwS (i : Int))
 | _ => .int .i64 0
def nzF (j : Nat) : Value := nzC (j / 16) (j % 16)
theorem aI (i j : Nat) (hj : j < 16) : nzF (i * 16 + j) = nzC i j := by
 unfold nzF
 rw [show (i * 16 + j) / 16 = i by omega, show (i * 16 + j) % 16 = j by omega]
theorem jJ {i j : Nat} {u : Value} (h : (nzA (i : Int))[j]? = some u) : j < 16 ∧ nzC i j = u := by
 have hs : (nzA (i : Int)).size = 16 := rfl
 have hj : j < 16 := by
  rcases Nat.lt_or_ge j 16 with q | q
  ·exact q
  ·rw [Array.getElem?_eq_none (by omega)] at h; cases h
 refine ⟨hj, ?_⟩
 have e : j = 0 ∨ j = 1 ∨ j = 2 ∨ j = 3 ∨ j = 4 ∨ j = 5 ∨ j = 6 ∨ j = 7 ∨ j = 8 ∨ j = 9 ∨ j = 10 ∨ j = 11 ∨ j = 12 ∨ j = 13 ∨ j = 14 ∨ j = 15 := by omega
 rcases e with rfl | rfl | rfl | rfl | rfl | rfl | rfl | rfl | rfl | rfl | rfl | rfl | rfl | rfl | rfl | rfl <;> exact Option.some.inj h
theorem jK (n : Nat) : (List.range ((n + 1) * 16)).map nzF = (List.range (n * 16)).map nzF ++ (nzA (n : Int)).toList := by
 rw [show (n + 1) * 16 = n * 16 + 16 by omega, List.range_add, List.map_append, List.map_map]
 congr 1
 show [nzF (n * 16 + 0), nzF (n * 16 + 1), nzF (n * 16 + 2), nzF (n * 16 + 3), nzF (n * 16 + 4), nzF (n * 16 + 5), nzF (n * 16 + 6), nzF (n * 16 + 7), nzF (n * 16 + 8), nzF (n * 16 + 9), nzF (n * 16 + 10), nzF (n * 16 + 11), nzF (n * 16 + 12), nzF (n * 16 + 13), nzF (n * 16 + 14), nzF (n * 16 + 15)] = _
 simp only [aI n _ (show 0 < 16 by omega), aI n 1 (by omega), aI n 2 (by omega), aI n 3 (by omega), aI n 4 (by omega), aI n 5 (by omega), aI n 6 (by omega), aI n 7 (by omega), aI n 8 (by omega), aI n 9 (by omega), aI n 10 (by omega), aI n 11 (by omega), aI n 12 (by omega), aI n 13 (by omega), aI n 14 (by omega), aI n 15 (by omega)]
 rfl
theorem nz_rw {w : World} {a : Option Addr} {n : Nat} (h : ae w a (n * 16) nzF) : RwN NdS w a n nzX := by
 rcases h with h | ⟨b, off, rfl, h⟩
 ·exact .inl (by omega)
 ·refine .inr ⟨b, off, fun i => nzA (i : Int), rfl, ⟨h.1, fun i hi j u hu => ?_⟩, fun i hi => (kD _ _ _ _ _ _ w 0 w.heap.size).src⟩
  obtain ⟨hj, rfl⟩ := jJ hu
  rw [← aI i j hj, show off + i * 16 + j = off + (i * 16 + j) by omega]
  exact h.2 (i * 16 + j) (by omega)
theorem j4 (f : Nat → Int) (n : Nat) : ∀ u ∈ (List.range (n * 1)).map (itG f), u.oneCell' = true := by
 intro u hu
 rw [List.mem_map] at hu
 obtain ⟨j, _, rfl⟩ := hu
 rfl
theorem iE (f : Nat → Bool) (n : Nat) : ∀ u ∈ (List.range (n * 1)).map (boG f), u.oneCell' = true := by
 intro u hu
 rw [List.mem_map] at hu
 obtain ⟨j, _, rfl⟩ := hu
 rfl
theorem jf (f : Nat → SlT) (n : Nat) : ∀ u ∈ (List.range (n * 2)).map (ak f), u.oneCell' = true := by
 intro u hu
 rw [List.mem_map] at hu
 obtain ⟨j, _, rfl⟩ := hu
 have h : j % 2 = 0 ∨ j % 2 = 1 := by omega
 unfold ak
 rcases h with h | h <;> rw [h] <;> rfl
theorem j9 (i j : Nat) : (nzC i j).oneCell' = true := by unfold nzC; split <;> rfl
theorem ka (n : Nat) : ∀ u ∈ (List.range (n * 16)).map nzF, u.oneCell' = true := by
 intro u hu
 rw [List.mem_map] at hu
 obtain ⟨j, _, rfl⟩ := hu
 exact j9 _ _
theorem iC (w : World) (A : Array Value) (T : TypeId) : ∀ j u, A.toList[j]? = some u → (w.alloc (.cells A T)).cell? ((⟨w.heap.size, 0, none⟩ : Addr).add j) = some u := by
 intro j u h
 rw [aU, Nat.zero_add]
 have h' : A[j]? = some u := by rw [← Array.getElem?_toList]; exact h
 simp [h']
theorem gf : (Tryz.prog.info? 98).map (fun i => (i.zero, i.size, i.bytes)) = some (some (.agg #[.int .i64 0, .int .i64 0, .int .i64 0, .int .i64 0, .bool false, .int .i64 0, .int .i64 0, .int .i64 0, .int .i64 0, .int .i64 0, .slice none 0 0, .slice none 0 0, .bool false, .int .i64 0, .slice none 0 0, .int .i64 0]), 16, 176) := by kernel_rfl
theorem dq {w : World} {ops : Array Oper} {rest : List Oper} {o : Oper} {a : Act} {Q : Exit → Act → World → Prop} (hgd : o.guard = none) (s x : Operand)
 (ho : o.op = .call { callee := .builtin .append, args := #[s, x], argTypes := #[41, 41] }) (base : Nat) (M : Nat → SlT) (v : Value) (hs : a.eval s = v) (hown : w.ownsRow base 173 2 v 0 ([] : List Value))
 (A : Option Addr) (n c : Nat) (hx : a.eval x = .slice A n c) (hA : (A = none ∧ n = 0 ∧ c = 0) ∨ ∃ b off, A = some ⟨b, off, none⟩ ∧ (n = 0 ∨ Cs w b off (n * 2) (ak M))) (hL : n ≤ 1048576) (hbase : base ≤ w.heap.size)
 (h : ∀ v' w', w'.ownsRow base 173 2 v' n ((List.range (n * 2)).map (ak M)) → w.grownBy w' v.ownBlock → wpList Tryz.prog ops Q rest (a.put o.dst v') w') :
 wpList Tryz.prog ops Q (o :: rest) a w := by
 obtain ⟨i0, hi, hz⟩ := Option.map_eq_some_iff.1 gh
 simp only [Prod.mk.injEq] at hz
 obtain ⟨hz0, hz1, hz2⟩ := hz
 rcases hA with ⟨rfl, rfl, rfl⟩ | ⟨b, off, rfl, hC⟩
 ·have hr := run_append_owned_none (P := Tryz.prog) (w := w) base 41 o.type 173 i0 2 Tryz.underlying41 hi v 0 [] hown
  refine wpList_plain hgd fun _ hK => ?_
  unfold Oper.wp execOp
  simp only [ho, resolve, invoke, builtin, Sem.run_bind, Sem.run_pure, Result.andThen_ok, List.map_toArray, List.map_cons, List.map_nil, hs, hx, hr]
  exact hK _ _ (h v w hown ⟨rfl, rfl, rfl, Nat.le_refl _, fun _ _ _ => rfl⟩)
 ·have hcells : ∀ j u, ((List.range (n * 2)).map (ak M))[j]? = some u → w.cell? ((⟨b, off, none⟩ : Addr).add j) = some u := by
   intro j u hu
   rw [List.getElem?_map] at hu
   by_cases hj : j < n * 2
   ·rw [List.getElem?_range hj] at hu
    simp at hu
    subst hu
    rcases hC with rfl | hC
    ·omega
    ·rw [aU]; exact hC.2 j hj
   ·rw [List.getElem?_eq_none (by rw [List.length_range]; omega)] at hu
    simp at hu
  refine aG hgd s x 41 ho base 173 i0 (.agg #[.int .i64 0, .int .i64 0]) 2 16 Tryz.underlying41 hi hz0 hz1 hz2 rfl (by decide) v 0 [] hs hown ⟨b, off, none⟩ n c ((List.range (n * 2)).map (ak M)) hx (by simp) hcells (jf M n) (by unfold maxLen; omega) (by omega) hbase ?_
  intro v' w' h1 h2 _
  refine h v' w' ?_ h2
  rw [Nat.zero_add, List.nil_append] at h1
  exact h1
theorem gN {w : World} {ops : Array Oper} {rest : List Oper} {o : Oper} {a : Act} {Q : Exit → Act → World → Prop} (hgd : o.guard = none) (s x : Operand)
 (ho : o.op = .call { callee := .builtin .append, args := #[s, x], argTypes := #[29, 29] }) (base : Nat) (M : Nat → Bool) (v : Value) (hs : a.eval s = v) (hown : w.ownsRow base 4 1 v 0 ([] : List Value))
 (A : Option Addr) (n c : Nat) (hx : a.eval x = .slice A n c) (hA : (A = none ∧ n = 0 ∧ c = 0) ∨ ∃ b off, A = some ⟨b, off, none⟩ ∧ (n = 0 ∨ Cs w b off (n * 1) (boG M))) (hL : n ≤ 1048576) (hbase : base ≤ w.heap.size)
 (h : ∀ v' w', w'.ownsRow base 4 1 v' n ((List.range (n * 1)).map (boG M)) → w.grownBy w' v.ownBlock → wpList Tryz.prog ops Q rest (a.put o.dst v') w') :
 wpList Tryz.prog ops Q (o :: rest) a w := by
 obtain ⟨i0, hi, hz⟩ := Option.map_eq_some_iff.1 hH
 simp only [Prod.mk.injEq] at hz
 obtain ⟨hz0, hz1, hz2⟩ := hz
 rcases hA with ⟨rfl, rfl, rfl⟩ | ⟨b, off, rfl, hC⟩
 ·have hr := run_append_owned_none (P := Tryz.prog) (w := w) base 29 o.type 4 i0 1 Tryz.underlying29 hi v 0 [] hown
  refine wpList_plain hgd fun _ hK => ?_
  unfold Oper.wp execOp
  simp only [ho, resolve, invoke, builtin, Sem.run_bind, Sem.run_pure, Result.andThen_ok, List.map_toArray, List.map_cons, List.map_nil, hs, hx, hr]
  exact hK _ _ (h v w hown ⟨rfl, rfl, rfl, Nat.le_refl _, fun _ _ _ => rfl⟩)
 ·have hcells : ∀ j u, ((List.range (n * 1)).map (boG M))[j]? = some u → w.cell? ((⟨b, off, none⟩ : Addr).add j) = some u := by
   intro j u hu
   rw [List.getElem?_map] at hu
   by_cases hj : j < n * 1
   ·rw [List.getElem?_range hj] at hu
    simp at hu
    subst hu
    rcases hC with rfl | hC
    ·omega
    ·rw [aU]; exact hC.2 j hj
   ·rw [List.getElem?_eq_none (by rw [List.length_range]; omega)] at hu
    simp at hu
  refine aG hgd s x 29 ho base 4 i0 (.bool false) 1 1 Tryz.underlying29 hi hz0 hz1 hz2 rfl (by decide) v 0 [] hs hown ⟨b, off, none⟩ n c ((List.range (n * 1)).map (boG M)) hx (by simp) hcells (iE M n) (by unfold maxLen; omega) (by omega) hbase ?_
  intro v' w' h1 h2 _
  refine h v' w' ?_ h2
  rw [Nat.zero_add, List.nil_append] at h1
  exact h1
theorem i3 {w : World} {ops : Array Oper} {rest : List Oper} {o : Oper} {a : Act} {Q : Exit → Act → World → Prop} (hgd : o.guard = none) (s x : Operand)
 (ho : o.op = .call { callee := .builtin .append, args := #[s, x], argTypes := #[30, 30] }) (base : Nat) (M : Nat → Int) (v : Value) (hs : a.eval s = v) (hown : w.ownsRow base 3 1 v 0 ([] : List Value))
 (A : Option Addr) (n c : Nat) (hx : a.eval x = .slice A n c) (hA : (A = none ∧ n = 0 ∧ c = 0) ∨ ∃ b off, A = some ⟨b, off, none⟩ ∧ (n = 0 ∨ Cs w b off (n * 1) (itG M))) (hL : n ≤ 1048576) (hbase : base ≤ w.heap.size)
 (h : ∀ v' w', w'.ownsRow base 3 1 v' n ((List.range (n * 1)).map (itG M)) → w.grownBy w' v.ownBlock → wpList Tryz.prog ops Q rest (a.put o.dst v') w') :
 wpList Tryz.prog ops Q (o :: rest) a w := by
 obtain ⟨i0, hi, hz⟩ := Option.map_eq_some_iff.1 jv
 simp only [Prod.mk.injEq] at hz
 obtain ⟨hz0, hz1, hz2⟩ := hz
 rcases hA with ⟨rfl, rfl, rfl⟩ | ⟨b, off, rfl, hC⟩
 ·have hr := run_append_owned_none (P := Tryz.prog) (w := w) base 30 o.type 3 i0 1 Tryz.underlying30 hi v 0 [] hown
  refine wpList_plain hgd fun _ hK => ?_
  unfold Oper.wp execOp
  simp only [ho, resolve, invoke, builtin, Sem.run_bind, Sem.run_pure, Result.andThen_ok, List.map_toArray, List.map_cons, List.map_nil, hs, hx, hr]
  exact hK _ _ (h v w hown ⟨rfl, rfl, rfl, Nat.le_refl _, fun _ _ _ => rfl⟩)
 ·have hcells : ∀ j u, ((List.range (n * 1)).map (itG M))[j]? = some u → w.cell? ((⟨b, off, none⟩ : Addr).add j) = some u := by
   intro j u hu
   rw [List.getElem?_map] at hu
   by_cases hj : j < n * 1
   ·rw [List.getElem?_range hj] at hu
    simp at hu
    subst hu
    rcases hC with rfl | hC
    ·omega
    ·rw [aU]; exact hC.2 j hj
   ·rw [List.getElem?_eq_none (by rw [List.length_range]; omega)] at hu
    simp at hu
  refine aG hgd s x 30 ho base 3 i0 (.int .i64 0) 1 8 Tryz.underlying30 hi hz0 hz1 hz2 rfl (by decide) v 0 [] hs hown ⟨b, off, none⟩ n c ((List.range (n * 1)).map (itG M)) hx (by simp) hcells (j4 M n) (by unfold maxLen; omega) (by omega) hbase ?_
  intro v' w' h1 h2 _
  refine h v' w' ?_ h2
  rw [Nat.zero_add, List.nil_append] at h1
  exact h1
theorem i4 {w : World} {ops : Array Oper} {rest : List Oper} {o : Oper} {a : Act} {Q : Exit → Act → World → Prop} (hgd : o.guard = none) (s x : Operand)
 (ho : o.op = .call { callee := .builtin .append, args := #[s, x], argTypes := #[46, 46] }) (base : Nat)  (v : Value) (hs : a.eval s = v) (hown : w.ownsRow base 98 16 v 0 ([] : List Value))
 (A : Option Addr) (n c : Nat) (hx : a.eval x = .slice A n c) (hA : (A = none ∧ n = 0 ∧ c = 0) ∨ ∃ b off, A = some ⟨b, off, none⟩ ∧ (n = 0 ∨ Cs w b off (n * 16) nzF)) (hL : n ≤ 1048576) (hbase : base ≤ w.heap.size)
 (h : ∀ v' w', w'.ownsRow base 98 16 v' n ((List.range (n * 16)).map nzF) → w.grownBy w' v.ownBlock → wpList Tryz.prog ops Q rest (a.put o.dst v') w') :
 wpList Tryz.prog ops Q (o :: rest) a w := by
 obtain ⟨i0, hi, hz⟩ := Option.map_eq_some_iff.1 gf
 simp only [Prod.mk.injEq] at hz
 obtain ⟨hz0, hz1, hz2⟩ := hz
 rcases hA with ⟨rfl, rfl, rfl⟩ | ⟨b, off, rfl, hC⟩
 ·have hr := run_append_owned_none (P := Tryz.prog) (w := w) base 46 o.type 98 i0 16 Tryz.underlying46 hi v 0 [] hown
  refine wpList_plain hgd fun _ hK => ?_
  unfold Oper.wp execOp
  simp only [ho, resolve, invoke, builtin, Sem.run_bind, Sem.run_pure, Result.andThen_ok, List.map_toArray, List.map_cons, List.map_nil, hs, hx, hr]
  exact hK _ _ (h v w hown ⟨rfl, rfl, rfl, Nat.le_refl _, fun _ _ _ => rfl⟩)
 ·have hcells : ∀ j u, ((List.range (n * 16)).map nzF)[j]? = some u → w.cell? ((⟨b, off, none⟩ : Addr).add j) = some u := by
   intro j u hu
   rw [List.getElem?_map] at hu
   by_cases hj : j < n * 16
   ·rw [List.getElem?_range hj] at hu
    simp at hu
    subst hu
    rcases hC with rfl | hC
    ·omega
    ·rw [aU]; exact hC.2 j hj
   ·rw [List.getElem?_eq_none (by rw [List.length_range]; omega)] at hu
    simp at hu
  refine aG hgd s x 46 ho base 98 i0 (.agg #[.int .i64 0, .int .i64 0, .int .i64 0, .int .i64 0, .bool false, .int .i64 0, .int .i64 0, .int .i64 0, .int .i64 0, .int .i64 0, .slice none 0 0, .slice none 0 0, .bool false, .int .i64 0, .slice none 0 0, .int .i64 0]) 16 176 Tryz.underlying46 hi hz0 hz1 hz2 rfl (by decide) v 0 [] hs hown ⟨b, off, none⟩ n c ((List.range (n * 16)).map nzF) hx (by simp) hcells (ka n) (by unfold maxLen; omega) (by omega) hbase ?_
  intro v' w' h1 h2 _
  refine h v' w' ?_ h2
  rw [Nat.zero_add, List.nil_append] at h1
  exact h1
theorem gM (a : Option Addr) (n c : Nat) (M : Nat → SlT) (w : World) (hL : n ≤ 1048576) (ha : RwO w a n c 2 (ak M)) :
 Calls Tryz.prog 109 #[.slice a n c] w fun e w' => ∃ a' c', e = .returned (.slice a' n c') ∧ Rwo w' w.heap.size w'.heap.size 173 2 a' n c' (ak M) ∧ Below w.heap.size w w' := by
 have qT : ∀ (w : World) (a : Option Addr) (n c n' c' : Nat), (binOp .eql 41 (.slice a n c) (.slice none n' c')).run Tryz.prog w = .ok (.bool a.isNone) w := fun w a n c n' c' => Lib.run_eql_slice_nil w _ _ a n c n' c' Tryz.underlying41
 rcases ha with ⟨rfl, rfl, rfl⟩ | ⟨b, off, rfl, hC⟩
 ·go_enter Tryz.func109, Tryz.ntmps109
  go_wp2_with fail
  go_ret
  exact ⟨none, 0, rfl, ⟨⟨rfl, .inl ⟨rfl, rfl⟩⟩, fun g e => by cases e⟩, Below.refl _ _⟩
 ·have A := Below.nw w (.cells #[] 173)
  have OW : (w.alloc (.cells #[] 173)).ownsRow w.heap.size 173 2 (.slice (some ⟨w.heap.size, 0, none⟩) 0 0) 0 ([] : List Value) := World.ownsRow_made w #[] 0 (Nat.le_refl _) (by simp [maxLen]) (by simp)
  have hsz : w.heap.size ≤ (w.alloc (.cells #[] 173)).heap.size := A.size
  have HA : Hid ((some (⟨b, off, none⟩ : Addr) = none ∧ n = 0 ∧ c = 0) ∨ ∃ b' off', some (⟨b, off, none⟩ : Addr) = some ⟨b', off', none⟩ ∧ (n = 0 ∨ Cs (w.alloc (.cells #[] 173)) b' off' (n * 2) (ak M))) := .inr ⟨b, off, rfl, hC.imp id fun h => h.below A h.1⟩
  clear hC
  go_enter Tryz.func109, Tryz.ntmps109
  go_wp2_with (at_builtin; refine dq rfl _ _ rfl w.heap.size M _ rfl OW _ n c rfl HA.out hL hsz ?_; intro v' w9 O9 hg9; (have B9 := A.trans (az OW hg9 hsz)))
  go_ret
  obtain ⟨a', c', rfl, _, _, _⟩ := aS O9
  exact ⟨a', c', rfl, bt O9, B9⟩
theorem gL (a : Option Addr) (n c : Nat) (M : Nat → Bool) (w : World) (hL : n ≤ 1048576) (ha : RwO w a n c 1 (boG M)) :
 Calls Tryz.prog 110 #[.slice a n c] w fun e w' => ∃ a' c', e = .returned (.slice a' n c') ∧ Rwo w' w.heap.size w'.heap.size 4 1 a' n c' (boG M) ∧ Below w.heap.size w w' := by
 have qT : ∀ (w : World) (a : Option Addr) (n c n' c' : Nat), (binOp .eql 29 (.slice a n c) (.slice none n' c')).run Tryz.prog w = .ok (.bool a.isNone) w := fun w a n c n' c' => Lib.run_eql_slice_nil w _ _ a n c n' c' Tryz.underlying29
 rcases ha with ⟨rfl, rfl, rfl⟩ | ⟨b, off, rfl, hC⟩
 ·go_enter Tryz.func110, Tryz.ntmps110
  go_wp2_with fail
  go_ret
  exact ⟨none, 0, rfl, ⟨⟨rfl, .inl ⟨rfl, rfl⟩⟩, fun g e => by cases e⟩, Below.refl _ _⟩
 ·have A := Below.nw w (.cells #[] 4)
  have OW : (w.alloc (.cells #[] 4)).ownsRow w.heap.size 4 1 (.slice (some ⟨w.heap.size, 0, none⟩) 0 0) 0 ([] : List Value) := World.ownsRow_made w #[] 0 (Nat.le_refl _) (by simp [maxLen]) (by simp)
  have hsz : w.heap.size ≤ (w.alloc (.cells #[] 4)).heap.size := A.size
  have HA : Hid ((some (⟨b, off, none⟩ : Addr) = none ∧ n = 0 ∧ c = 0) ∨ ∃ b' off', some (⟨b, off, none⟩ : Addr) = some ⟨b', off', none⟩ ∧ (n = 0 ∨ Cs (w.alloc (.cells #[] 4)) b' off' (n * 1) (boG M))) := .inr ⟨b, off, rfl, hC.imp id fun h => h.below A h.1⟩
  clear hC
  go_enter Tryz.func110, Tryz.ntmps110
  go_wp2_with (at_builtin; refine gN rfl _ _ rfl w.heap.size M _ rfl OW _ n c rfl HA.out hL hsz ?_; intro v' w9 O9 hg9; (have B9 := A.trans (az OW hg9 hsz)))
  go_ret
  obtain ⟨a', c', rfl, _, _, _⟩ := aS O9
  exact ⟨a', c', rfl, bt O9, B9⟩
theorem iU (a : Option Addr) (n c : Nat) (M : Nat → Int) (w : World) (hL : n ≤ 1048576) (ha : RwO w a n c 1 (itG M)) :
 Calls Tryz.prog 111 #[.slice a n c] w fun e w' => ∃ a' c', e = .returned (.slice a' n c') ∧ Rwo w' w.heap.size w'.heap.size 3 1 a' n c' (itG M) ∧ Below w.heap.size w w' := by
 have qT : ∀ (w : World) (a : Option Addr) (n c n' c' : Nat), (binOp .eql 30 (.slice a n c) (.slice none n' c')).run Tryz.prog w = .ok (.bool a.isNone) w := fun w a n c n' c' => Lib.run_eql_slice_nil w _ _ a n c n' c' Tryz.underlying30
 rcases ha with ⟨rfl, rfl, rfl⟩ | ⟨b, off, rfl, hC⟩
 ·go_enter Tryz.func111, Tryz.ntmps111
  go_wp2_with fail
  go_ret
  exact ⟨none, 0, rfl, ⟨⟨rfl, .inl ⟨rfl, rfl⟩⟩, fun g e => by cases e⟩, Below.refl _ _⟩
 ·have A := Below.nw w (.cells #[] 3)
  have OW : (w.alloc (.cells #[] 3)).ownsRow w.heap.size 3 1 (.slice (some ⟨w.heap.size, 0, none⟩) 0 0) 0 ([] : List Value) := World.ownsRow_made w #[] 0 (Nat.le_refl _) (by simp [maxLen]) (by simp)
  have hsz : w.heap.size ≤ (w.alloc (.cells #[] 3)).heap.size := A.size
  have HA : Hid ((some (⟨b, off, none⟩ : Addr) = none ∧ n = 0 ∧ c = 0) ∨ ∃ b' off', some (⟨b, off, none⟩ : Addr) = some ⟨b', off', none⟩ ∧ (n = 0 ∨ Cs (w.alloc (.cells #[] 3)) b' off' (n * 1) (itG M))) := .inr ⟨b, off, rfl, hC.imp id fun h => h.below A h.1⟩
  clear hC
  go_enter Tryz.func111, Tryz.ntmps111
  go_wp2_with (at_builtin; refine i3 rfl _ _ rfl w.heap.size M _ rfl OW _ n c rfl HA.out hL hsz ?_; intro v' w9 O9 hg9; (have B9 := A.trans (az OW hg9 hsz)))
  go_ret
  obtain ⟨a', c', rfl, _, _, _⟩ := aS O9
  exact ⟨a', c', rfl, bt O9, B9⟩
theorem i1 (a : Option Addr) (n c : Nat)  (w : World) (hL : n ≤ 1048576) (ha : RwO w a n c 16 nzF) :
 Calls Tryz.prog 112 #[.slice a n c] w fun e w' => ∃ a' c', e = .returned (.slice a' n c') ∧ Rwo w' w.heap.size w'.heap.size 98 16 a' n c' nzF ∧ Below w.heap.size w w' := by
 have qT : ∀ (w : World) (a : Option Addr) (n c n' c' : Nat), (binOp .eql 46 (.slice a n c) (.slice none n' c')).run Tryz.prog w = .ok (.bool a.isNone) w := fun w a n c n' c' => Lib.run_eql_slice_nil w _ _ a n c n' c' Tryz.underlying46
 rcases ha with ⟨rfl, rfl, rfl⟩ | ⟨b, off, rfl, hC⟩
 ·go_enter Tryz.func112, Tryz.ntmps112
  go_wp2_with fail
  go_ret
  exact ⟨none, 0, rfl, ⟨⟨rfl, .inl ⟨rfl, rfl⟩⟩, fun g e => by cases e⟩, Below.refl _ _⟩
 ·have A := Below.nw w (.cells #[] 98)
  have OW : (w.alloc (.cells #[] 98)).ownsRow w.heap.size 98 16 (.slice (some ⟨w.heap.size, 0, none⟩) 0 0) 0 ([] : List Value) := World.ownsRow_made w #[] 0 (Nat.le_refl _) (by simp [maxLen]) (by simp)
  have hsz : w.heap.size ≤ (w.alloc (.cells #[] 98)).heap.size := A.size
  have HA : Hid ((some (⟨b, off, none⟩ : Addr) = none ∧ n = 0 ∧ c = 0) ∨ ∃ b' off', some (⟨b, off, none⟩ : Addr) = some ⟨b', off', none⟩ ∧ (n = 0 ∨ Cs (w.alloc (.cells #[] 98)) b' off' (n * 16) nzF)) := .inr ⟨b, off, rfl, hC.imp id fun h => h.below A h.1⟩
  clear hC
  go_enter Tryz.func112, Tryz.ntmps112
  go_wp2_with (at_builtin; refine i4 rfl _ _ rfl w.heap.size  _ rfl OW _ n c rfl HA.out hL hsz ?_; intro v' w9 O9 hg9; (have B9 := A.trans (az OW hg9 hsz)))
  go_ret
  obtain ⟨a', c', rfl, _, _, _⟩ := aS O9
  exact ⟨a', c', rfl, bt O9, B9⟩
theorem aW {w : World} {ops : Array Oper} {o : Oper} {a : Act} {K : Act → World → Prop} {Q : Exit → Act → World → Prop} (hgd : o.guard = none) (s x : Operand) (t : TypeId)
 (ho : o.op = .call { callee := .builtin .append, args := #[s, x], argTypes := #[t, t] }) (v y : Value) (hs : a.eval s = v) (hx : a.eval x = y)
 (h : ∃ v' w', (Builtin.append_ #[t, t] o.type #[v, y]).run Tryz.prog w = .ok v' w' ∧ K (a.put o.dst v') w') : if Region.wanted o (yielded ops a.tmps) = true then Oper.wp Tryz.prog o a w K Q else K (a.put o.dst undef) w := by
 obtain ⟨v', w', hr, h⟩ := h
 simp only [Region.wanted, hgd, if_true]
 unfold Oper.wp execOp
 simp only [ho, resolve, invoke, builtin, Sem.run_bind, Sem.run_pure, Result.andThen_ok, List.map_toArray, List.map_cons, List.map_nil, hs, hx, hr]
 exact h
theorem bA (w : World) (ty : TypeId) (base : Nat) (M : Nat → Bool) (v : Value) (hown : w.ownsRow base 4 1 v 0 ([] : List Value))
 (A : Option Addr) (n c : Nat) (hA : ae w A n (boG M)) (hz : n = 0 → A = none ∧ c = 0 ∨ ∃ b off, A = some ⟨b, off, none⟩) (hL : n ≤ 1048576) (hbase : base ≤ w.heap.size) :
 ∃ v' w', (Builtin.append_ #[29, 29] ty #[v, .slice A n c]).run Tryz.prog w = .ok v' w' ∧ w'.ownsRow base 4 1 v' n ((List.range (n * 1)).map (boG M)) ∧ w.grownBy w' v.ownBlock ∧ (∀ g, v'.ownBlock = some g → v.ownBlock = some g ∨ w.heap.size ≤ g) := by
 obtain ⟨i0, hi, hz'⟩ := Option.map_eq_some_iff.1 hH
 simp only [Prod.mk.injEq] at hz'
 obtain ⟨hz0, hz1, hz2⟩ := hz'
 have key : ∀ b off, A = some ⟨b, off, none⟩ → (n = 0 ∨ Cs w b off n (boG M)) → ∃ v' w', (Builtin.append_ #[29, 29] ty #[v, .slice A n c]).run Tryz.prog w = .ok v' w' ∧ w'.ownsRow base 4 1 v' n ((List.range (n * 1)).map (boG M)) ∧ w.grownBy w' v.ownBlock ∧ (∀ g, v'.ownBlock = some g → v.ownBlock = some g ∨ w.heap.size ≤ g) := by
  rintro b off rfl hC
  have hcells : ∀ j u, ((List.range (n * 1)).map (boG M))[j]? = some u → w.cell? ((⟨b, off, none⟩ : Addr).add j) = some u := by
   intro j u hu
   rw [List.getElem?_map] at hu
   by_cases hj : j < n * 1
   ·rw [List.getElem?_range hj] at hu
    simp at hu
    subst hu
    rcases hC with rfl | hC
    ·omega
    ·rw [aU]; exact hC.2 j (by omega)
   ·rw [List.getElem?_eq_none (by rw [List.length_range]; omega)] at hu
    simp at hu
  obtain ⟨v', w', h1, h2, h3, h4⟩ := bs (P := Tryz.prog) w base 29 ty 4 i0 (.bool false) 1 1 Tryz.underlying29 hi hz0 hz1 hz2 rfl (by decide) v 0 [] hown ⟨b, off, none⟩ n c ((List.range (n * 1)).map (boG M)) (by simp) hcells (iE M n) (by unfold maxLen; omega) (by omega) hbase
  rw [Nat.zero_add, List.nil_append] at h2
  exact ⟨v', w', h1, h2, h3, h4⟩
 rcases hA with h0 | ⟨b, off, hA, hC⟩
 ·rcases hz h0 with ⟨rfl, rfl⟩ | ⟨b, off, hA⟩
  ·subst h0
   exact ⟨v, w, run_append_owned_none (P := Tryz.prog) (w := w) base 29 ty 4 i0 1 Tryz.underlying29 hi v 0 [] hown, hown, ⟨rfl, rfl, rfl, Nat.le_refl _, fun _ _ _ => rfl⟩, fun g hg => .inl hg⟩
  ·exact key b off hA (.inl h0)
 ·exact key b off hA (.inr hC)
def RwK (w : World) (k s : Nat) (T : TypeId) (sz : Nat) (a : Option Addr) (n c : Nat) (F : Nat → Value) : Prop := Rwo w s w.heap.size T sz a n c F ∧ ∀ g, (Value.slice a n c).ownBlock = some g → g ≠ k
theorem RwK.below {w w' : World} {k s : Nat} {T : TypeId} {sz : Nat} {a : Option Addr} {n c : Nat} {F : Nat → Value} (h : RwK w k s T sz a n c F) (hb : Below w.heap.size w w') : RwK w' k s T sz a n c F :=
 ⟨(h.1.below hb).wide (Nat.le_refl _) hb.size, h.2⟩
theorem RwK.put {w w' : World} {k s : Nat} {T : TypeId} {sz : Nat} {a : Option Addr} {n c : Nat} {F : Nat → Value} (h : RwK w k s T sz a n c F) (hb : Btw k (k + 1) w w') : RwK w' k s T sz a n c F :=
 ⟨(h.1.same fun g hg => hb.2.2.2.2 g (h.1.lt hg).2.2 (by have := h.2 g hg; omega)).wide (Nat.le_refl _) hb.2.2.2.1, h.2⟩
theorem RwK.kept {w w' : World} {k s s' : Nat} {T T' : TypeId} {sz sz' : Nat} {a a' : Option Addr} {n c n' c' : Nat} {F F' : Nat → Value} (h : RwK w k s T sz a n c F) (h' : RwK w k s' T' sz' a' n' c' F') (hT : T ≠ T') (hb : w.grownBy w' (Value.slice a' n' c').ownBlock) : RwK w' k s T sz a n c F :=
 ⟨(h.1.kept hb (h.1.ne h'.1 hT)).wide (Nat.le_refl _) hb.size, h.2⟩
theorem RwK.bel {w w' : World} {k s : Nat} {T : TypeId} {sz : Nat} {a : Option Addr} {n c : Nat} {F : Nat → Value} (h : RwK w k s T sz a n c F) (hb : w.grownBy w' (Value.slice a n c).ownBlock) {B : Nat} (hs : B ≤ s) (hB : B ≤ w.heap.size) : Below B w w' :=
 ⟨hb.os, hb.tape, hb.output, hb.size, fun g hg => hb.block g (by omega) (fun e => by have := (h.1.lt e.symm).1; omega)⟩
theorem RwK.bo {w w' : World} {k s j : Nat} {T : TypeId} {sz : Nat} {a : Option Addr} {n c : Nat} {F : Nat → Value} {A : Array Value} (h : RwK w k s T sz a n c F) (hb : w.grownBy w' (Value.slice a n c).ownBlock) (hA : Bo w j A) (hj : j = k ∨ j < s) : Bo w' j A :=
 hA.kept hb (fun e => by have q1 := (h.1.lt e.symm).1; have q2 := h.2 _ e.symm; omega)
theorem dP (w : World) (k s : Nat) (T : TypeId) (sz : Nat) (F : Nat → Value) : RwK w k s T sz none 0 0 F :=
 ⟨⟨⟨by simp, .inl ⟨rfl, rfl⟩⟩, fun g e => by cases e⟩, fun g e => by cases e⟩
theorem jR {w w' : World} {k s : Nat} {T : TypeId} {sz : Nat} {v v' : Value} {n : Nat} {F : Nat → Value} (ho : w'.ownsRow s T sz v' n ((List.range (n * sz)).map F)) (hv : ∀ g, v.ownBlock = some g → g ≠ k) (hk : k < w.heap.size) (h3 : ∀ g, v'.ownBlock = some g → v.ownBlock = some g ∨ w.heap.size ≤ g) : ∃ a' c', v' = .slice a' n c' ∧ RwK w' k s T sz a' n c' F := by
 obtain ⟨a', c', rfl, _, _, _⟩ := aS ho
 exact ⟨a', c', rfl, bt ho, fun g hg => by rcases h3 g hg with q | q; exact hv g q; omega⟩
theorem ga {w w' : World} {ob : Obj} {o : Option Nat} (h : (w.alloc ob).grownBy w' o) : w.grownBy w' o :=
 ⟨h.os, h.tape, h.output, Nat.le_trans (by simp) h.size, fun k hk hne => (h.block k (by simp; omega) hne).trans ((World.grownBy_alloc w _ none).block k hk (by simp))⟩
theorem aV (w : World) (ty : TypeId) (k s n : Nat) (a : Option Addr) (c : Nat) (hown : RwK w k s 98 16 a n c nzF) (hL : n ≤ 1048576) (hs : s ≤ w.heap.size) (hk : k < w.heap.size) :
 ∃ a' c' w', (Builtin.append_ #[46, 46] ty #[.slice a n c, .slice (some ⟨w.heap.size, 0, none⟩) 1 1]).run Tryz.prog (w.alloc (.cells (nzA (n : Int)) 98)) = .ok (.slice a' (n + 1) c') w' ∧ RwK w' k s 98 16 a' (n + 1) c' nzF ∧ w.grownBy w' (Value.slice a n c).ownBlock := by
 obtain ⟨i0, hi, hz'⟩ := Option.map_eq_some_iff.1 gf
 simp only [Prod.mk.injEq] at hz'
 obtain ⟨hz0, hz1, hz2⟩ := hz'
 have hsz : (nzA (n : Int)).size = 16 := rfl
 have h1 : ∀ u ∈ (nzA (n : Int)).toList, u.oneCell' = true := bX _ _ _ _ _ _ _
 obtain ⟨v', w', r1, r2, r3, r4⟩ := bs (P := Tryz.prog) (w.alloc (.cells (nzA (n : Int)) 98)) s 46 ty 98 i0 (.agg #[.int .i64 0, .int .i64 0, .int .i64 0, .int .i64 0, .bool false, .int .i64 0, .int .i64 0, .int .i64 0, .int .i64 0, .int .i64 0, .slice none 0 0, .slice none 0 0, .bool false, .int .i64 0, .slice none 0 0, .int .i64 0]) 16 176 Tryz.underlying46 hi hz0 hz1 hz2 rfl (by decide) (.slice a n c) n ((List.range (n * 16)).map nzF) (World.ownsRow.alloc hown.1.1 _) ⟨w.heap.size, 0, none⟩ 1 1 (nzA (n : Int)).toList (by rw [Array.length_toList, hsz]) (iC w (nzA (n : Int)) 98) h1 (by unfold maxLen; omega) (by omega) (by simp; omega)
 rw [← jK] at r2
 obtain ⟨a', c', rfl, r5⟩ := jR r2 hown.2 hk (fun g hg => (r4 g hg).imp id fun q => by simp at q; omega)
 exact ⟨a', c', w', r1, r5, ga r3⟩
theorem jl {w : World} {ops : Array Oper} {rest : List Oper} {o : Oper} {a : Act} {Q : Exit → Act → World → Prop} (hgd : o.guard = none) (sl x : Operand)
 (ho : o.op = .call { callee := .builtin .append, args := #[sl, x], argTypes := #[30, 30] }) (k s n : Nat) (A : Option Addr) (c : Nat) (hs : a.eval sl = .slice A n c) (hown : RwK w k s 3 1 A n c (itG fun _ => 0))
 (hx : a.eval x = .slice (some ⟨w.heap.size, 0, none⟩) 1 1) (hL : n ≤ 1048576) (hbase : s ≤ w.heap.size) (hk : k < w.heap.size)
 (h : ∀ A' c' w', RwK w' k s 3 1 A' (n + 1) c' (itG fun _ => 0) → w.grownBy w' (Value.slice A n c).ownBlock → wpList Tryz.prog ops Q rest (a.put o.dst (.slice A' (n + 1) c')) w') :
 wpList Tryz.prog ops Q (o :: rest) a (w.alloc (.cells #[.int .i64 0] 3)) := by
 obtain ⟨i0, hi, hz'⟩ := Option.map_eq_some_iff.1 jv
 simp only [Prod.mk.injEq] at hz'
 obtain ⟨hz0, hz1, hz2⟩ := hz'
 refine aG hgd sl x 30 ho s 3 i0 (.int .i64 0) 1 8 Tryz.underlying30 hi hz0 hz1 hz2 rfl (by decide) (.slice A n c) n ((List.range (n * 1)).map (itG fun _ => 0)) hs (World.ownsRow.alloc hown.1.1 _) ⟨w.heap.size, 0, none⟩ 1 1 [.int .i64 0] hx rfl (iC w #[.int .i64 0] 3) (by intro u hu; simp at hu; subst hu; rfl) (by unfold maxLen; omega) (by omega) (by simp; omega) ?_
 intro v' w' r1 r2 r3
 rw [show (List.range (n * 1)).map (itG fun _ => 0) ++ [.int .i64 0] = (List.range ((n + 1) * 1)).map (itG fun _ => 0) by rw [show (n + 1) * 1 = n * 1 + 1 by omega, List.range_succ, List.map_append]; rfl] at r1
 obtain ⟨a', c', rfl, r5⟩ := jR r1 hown.2 hk (fun g hg => (r3 g hg).imp id fun q => by simp at q; omega)
 exact h a' c' w' r5 (ga r2)
end Go.Proofs.YtddijpjgkifngaaGreat
