/- AppOk and AppRead in the specification. A block of three cells of any values. HeardNow in the specification. Hear in the specification. A clock that is read: what the laws make of it. What the laws of chapter 16 make of their arguments. The program: a clock, a look, a reading; what a reading comes to. -/
import Derived.WalkKit
import Derived.WalkSpells
import Derived.WalkLawsBesides
import Derived.Deep.RegionHeld
import Derived.Deep.RegionHeld3
import Derived.Deep.QuietTactic
import Derived.BigQuiet
import Derived.Deep.DeepCutAuto
import Derived.Test.YtlllbahfjihepaaGreatM7
import Derived.Test.YtlllbahfjihepaaGreatM1
import Derived.Test.YtlllbahfjihepaaGreatM4
import Derived.Test.YtlllbahfjihepaaGreatM10
import Derived.Test.YtlllbahfjihepaaGreatM2
import Derived.Test.YtlllbahfjihepaaGreatM8
namespace Go.Proofs.YtlllbahfjihepaaGreat
open Go.RowKit
set_option linter.unusedVariables false
def inT (l : Int) : Bool := decide (-1000000000000 ≤ l ∧ l ≤ 1000000000000)
def apB (h : Bool) (l : Int) : Bool := inT l && (h || (l == 0))
set_option maxHeartbeats 2000000 in
theorem specAppOk_any (h : Bool) (l : Int) (w : World) : Calls Tryz.prog 71 #[.agg #[.bool h, .int .i64 l]] w fun e w' => e = .returned (.bool (apB h l)) ∧ Below w.heap.size w w' := by
  have A := Below.nw w (.cells #[.bool h, .int .i64 l] 46)
  have N := Bx2.new w (.bool h) (.int .i64 l) 46
  have C1 := fun w' => l1In_any l (-1000000000000) 1000000000000 w'
  unfold apB
  have e0 : decide (-1000000000000 ≤ l ∧ l ≤ 1000000000000) = inT l := rfl
  rw [e0] at C1
  clear e0
  generalize inT l = q at *
  cases q
  · go_enter Tryz.func71, Tryz.ntmps71
    go_upto_region 1 with fail
    generalize w.alloc (.cells #[.bool h, .int .i64 l] 46) = v at *
    obtain ⟨n0, n1, n2, n3, n4⟩ := id N
    go_wp2_with fail
    refine (C1 _).mono ?_
    rintro e w' ⟨rfl, rfl⟩
    go_wp2_with fail
    go_ret
    exact ⟨rfl, A⟩
  · cases h
    · cases hz : (l == 0)
      all_goals
        go_enter Tryz.func71, Tryz.ntmps71
        go_upto_region 1 with fail
        generalize w.alloc (.cells #[.bool false, .int .i64 l] 46) = v at *
        obtain ⟨n0, n1, n2, n3, n4⟩ := id N
        go_wp2_with fail
        refine (C1 _).mono ?_
        rintro e w' ⟨rfl, rfl⟩
        go_wp2_with fail
        go_ret
        exact ⟨by first | rfl | (rw [hz]; rfl) | (simp; done), A⟩
    · go_enter Tryz.func71, Tryz.ntmps71
      go_upto_region 1 with fail
      generalize w.alloc (.cells #[.bool true, .int .i64 l] 46) = v at *
      obtain ⟨n0, n1, n2, n3, n4⟩ := id N
      go_wp2_with fail
      refine (C1 _).mono ?_
      rintro e w' ⟨rfl, rfl⟩
      go_wp2_with fail
      go_ret
      exact ⟨rfl, A⟩
end Go.Proofs.YtlllbahfjihepaaGreat
namespace Go.Proofs.YtlllbahfjihepaaGreat
open Go.RowKit
set_option linter.unusedVariables false
def Tx3 (w : World) (k : Nat) (u0 u1 u2 : Value) : Prop := k < w.heap.size ∧ w.cell? ⟨k, 0, none⟩ = some u0 ∧ w.cell? ⟨k, 1, none⟩ = some u1 ∧ w.cell? ⟨k, 2, none⟩ = some u2 ∧ w.frozen? ⟨k, 0, none⟩ = false ∧ w.frozen? ⟨k, 1, none⟩ = false ∧ w.frozen? ⟨k, 2, none⟩ = false
theorem Tx3.belowB {k B : Nat} {w w' : World} {u0 u1 u2 : Value} (h : Tx3 w k u0 u1 u2) (hw : Below B w w') (hk : k < B) : Tx3 w' k u0 u1 u2 := by
  obtain ⟨h0, h1, h2, h3, f1, f2, f3⟩ := h
  exact ⟨Nat.lt_of_lt_of_le h0 hw.size, by rw [hw.cell (p := ⟨k, 0, none⟩) hk]; exact h1, by rw [hw.cell (p := ⟨k, 1, none⟩) hk]; exact h2, by rw [hw.cell (p := ⟨k, 2, none⟩) hk]; exact h3, by rw [hw.frozen (p := ⟨k, 0, none⟩) hk]; exact f1, by rw [hw.frozen (p := ⟨k, 1, none⟩) hk]; exact f2, by rw [hw.frozen (p := ⟨k, 2, none⟩) hk]; exact f3⟩
theorem Tx3.below {k : Nat} {w w' : World} {u0 u1 u2 : Value} (h : Tx3 w k u0 u1 u2) (hw : Below w.heap.size w w') : Tx3 w' k u0 u1 u2 := h.belowB hw h.1
theorem Tx3.but {w w' : World} {k q : Nat} {u0 u1 u2 : Value} (h : Tx3 w k u0 u1 u2) (hb : But q w w') (hq : k ≠ q) : Tx3 w' k u0 u1 u2 := by
  obtain ⟨h0, h1, h2, h3, f1, f2, f3⟩ := h
  exact ⟨Nat.lt_of_lt_of_le h0 hb.2.2.2.1, by rw [hb.cell h0 hq]; exact h1, by rw [hb.cell h0 hq]; exact h2, by rw [hb.cell h0 hq]; exact h3, by rw [hb.frozen h0 hq]; exact f1, by rw [hb.frozen h0 hq]; exact f2, by rw [hb.frozen h0 hq]; exact f3⟩
theorem Tx3.alloc {k : Nat} {w : World} {u0 u1 u2 : Value} (h : Tx3 w k u0 u1 u2) (o : Obj) : Tx3 (w.alloc o) k u0 u1 u2 := h.below ((Below.refl _ _).alloc (Nat.le_refl _) _)
theorem Tx3.new (w : World) (u0 u1 u2 : Value) (T : TypeId) : Tx3 (w.alloc (.cells #[u0, u1, u2] T)) w.heap.size u0 u1 u2 := ⟨by simp, by simp, by simp, by simp, by simp, by simp, by simp⟩
theorem Tx3.drew {k : Nat} {w : World} {u0 u1 u2 : Value} (h : Tx3 w k u0 u1 u2) : Tx3 w.drew k u0 u1 u2 := h
theorem Tx3.setO {k j : Nat} {w : World} {u0 u1 u2 : Value} (h : Tx3 w k u0 u1 u2) (hk : j ≠ k) (o : Nat) (u : Value) : Tx3 (w.setCell ⟨j, o, none⟩ u) k u0 u1 u2 := by
  have hne : ∀ q, (⟨j, o, none⟩ : Addr) ≠ ⟨k, q, none⟩ := fun q e => hk (congrArg Addr.block e)
  obtain ⟨h0, h1, h2, h3, f1, f2, f3⟩ := h
  exact ⟨by simpa using h0, by rw [World.cell?_setCell_other _ _ _ _ (hne _)]; exact h1, by rw [World.cell?_setCell_other _ _ _ _ (hne _)]; exact h2, by rw [World.cell?_setCell_other _ _ _ _ (hne _)]; exact h3, by simpa using f1, by simpa using f2, by simpa using f3⟩
theorem Tx3.set0 {k : Nat} {w : World} {u0 u1 u2 : Value} (h : Tx3 w k u0 u1 u2) (x : Value) : Tx3 (w.setCell ⟨k, 0, none⟩ x) k x u1 u2 := by
  obtain ⟨h0, h1, h2, h3, f1, f2, f3⟩ := h
  exact ⟨by simpa using h0, World.cell?_setCell_same _ _ _ h1, (World.cell?_setCell_other _ _ _ _ (by simp)).trans h2, (World.cell?_setCell_other _ _ _ _ (by simp)).trans h3, by simpa using f1, by simpa using f2, by simpa using f3⟩
theorem Tx3.set1 {k : Nat} {w : World} {u0 u1 u2 : Value} (h : Tx3 w k u0 u1 u2) (x : Value) : Tx3 (w.setCell ⟨k, 1, none⟩ x) k u0 x u2 := by
  obtain ⟨h0, h1, h2, h3, f1, f2, f3⟩ := h
  exact ⟨by simpa using h0, (World.cell?_setCell_other _ _ _ _ (by simp)).trans h1, World.cell?_setCell_same _ _ _ h2, (World.cell?_setCell_other _ _ _ _ (by simp)).trans h3, by simpa using f1, by simpa using f2, by simpa using f3⟩
theorem Tx3.set2 {k : Nat} {w : World} {u0 u1 u2 : Value} (h : Tx3 w k u0 u1 u2) (x : Value) : Tx3 (w.setCell ⟨k, 2, none⟩ x) k u0 u1 x := by
  obtain ⟨h0, h1, h2, h3, f1, f2, f3⟩ := h
  exact ⟨by simpa using h0, (World.cell?_setCell_other _ _ _ _ (by simp)).trans h1, (World.cell?_setCell_other _ _ _ _ (by simp)).trans h2, World.cell?_setCell_same _ _ _ h3, by simpa using f1, by simpa using f2, by simpa using f3⟩
theorem Tx3.kept {w w' : World} {q : Option Nat} {k : Nat} {u0 u1 u2 : Value} (h : Tx3 w k u0 u1 u2) (hg : w.grownBy w' q) (hq : some k ≠ q) : Tx3 w' k u0 u1 u2 := by
  obtain ⟨h0, h1, h2, h3, f1, f2, f3⟩ := h
  have cc : ∀ i, w'.cell? ⟨k, i, none⟩ = w.cell? ⟨k, i, none⟩ := fun i => cell_grown hg h0 hq
  have ff : ∀ i, w'.frozen? ⟨k, i, none⟩ = w.frozen? ⟨k, i, none⟩ := fun i => by have := hg.block k h0 hq; simp only [World.frozen?]; rw [this]
  exact ⟨Nat.lt_of_lt_of_le h0 hg.size, by rw [cc]; exact h1, by rw [cc]; exact h2, by rw [cc]; exact h3, by rw [ff]; exact f1, by rw [ff]; exact f2, by rw [ff]; exact f3⟩
end Go.Proofs.YtlllbahfjihepaaGreat
namespace Go.Proofs.YtlllbahfjihepaaGreat
open Go.RowKit
set_option linter.unusedVariables false
theorem own_baseI16 {w : World} {base base' s n : Nat} {T : TypeId} {v : Value} {xs : List Value} (h : w.ownsRow base' T s v n xs) (hb : base ≤ base') : w.ownsRow base T s v n xs := by
  refine ⟨h.1, ?_⟩
  rcases h.2 with q | ⟨g, cap, cur, h1, h2, h3⟩
  · exact .inl q
  · exact .inr ⟨g, cap, cur, h1, Nat.le_trans hb h2, h3⟩
end Go.Proofs.YtlllbahfjihepaaGreat
namespace Go.Proofs.YtlllbahfjihepaaGreat
open Go.RowKit
set_option linter.unusedVariables false
theorem hrow_one (M : Nat → VT) (n : Nat) : ∀ u ∈ (List.range (n * 2)).map (MFIval M), u.oneCell' = true := by
  intro u hu
  rw [List.mem_map] at hu
  obtain ⟨j, _, rfl⟩ := hu
  have h : j % 2 = 0 ∨ j % 2 = 1 := by omega
  unfold MFIval
  rcases h with h | h <;> rw [h] <;> rfl
theorem addr_add16 (b off j : Nat) : (⟨b, off, none⟩ : Addr).add j = ⟨b, off + j, none⟩ := by
  unfold Addr.add
  split
  · next h => subst h; rfl
  · rfl
theorem copy_heards {w : World} {ops : Array Oper} {rest : List Oper} {o : Oper} {a : Act} {Q : Exit → Act → World → Prop} (hgd : o.guard = none) (s x : Operand)
    (ho : o.op = .call { callee := .builtin .append, args := #[s, x], argTypes := #[47, 47] }) (base : Nat) (M : Nat → VT) (v : Value) (hs : a.eval s = v) (hown : w.ownsRow base 99 2 v ([] : List VT).length (vrow []))
    (A : Option Addr) (n c : Nat) (hx : a.eval x = .slice A n c) (hA : (A = none ∧ n = 0 ∧ c = 0) ∨ ∃ b off, A = some ⟨b, off, none⟩ ∧ (n = 0 ∨ Cs w b off (n * 2) (MFIval M))) (hL : n ≤ 4096) (hbase : base ≤ w.heap.size)
    (h : ∀ v' w', w'.ownsRow base 99 2 v' n ((List.range (n * 2)).map (MFIval M)) → w.grownBy w' v.ownBlock → wpList Tryz.prog ops Q rest (a.put o.dst v') w') :
    wpList Tryz.prog ops Q (o :: rest) a w := by
  obtain ⟨i0, hi, hz0, hz1, hz2⟩ := info_parts info_heard
  rcases hA with ⟨rfl, rfl, rfl⟩ | ⟨b, off, rfl, hC⟩
  · have hr := run_append_owned_none (P := Tryz.prog) (w := w) base 47 o.type 99 i0 2 Tryz.underlying47 hi v 0 (vrow []) hown
    refine wpList_plain hgd fun _ hK => ?_
    unfold Oper.wp execOp
    simp only [ho, resolve, invoke, builtin, Sem.run_bind, Sem.run_pure, Result.andThen_ok, List.map_toArray, List.map_cons, List.map_nil, hs, hx, hr]
    exact hK _ _ (h v w hown ⟨rfl, rfl, rfl, Nat.le_refl _, fun _ _ _ => rfl⟩)
  · have hcells : ∀ j u, ((List.range (n * 2)).map (MFIval M))[j]? = some u → w.cell? ((⟨b, off, none⟩ : Addr).add j) = some u := by
      intro j u hu
      rw [List.getElem?_map] at hu
      by_cases hj : j < n * 2
      · rw [List.getElem?_range hj] at hu
        simp at hu
        subst hu
        rcases hC with rfl | hC
        · omega
        · rw [addr_add16]; exact hC.2 j hj
      · rw [List.getElem?_eq_none (by rw [List.length_range]; omega)] at hu
        simp at hu
    refine wpList_append_new hgd s x 47 ho base 99 i0 (.agg #[.int .i64 0, .int .i64 0]) 2 16 Tryz.underlying47 hi hz0 hz1 hz2 rfl (by decide) v 0 (vrow []) hs hown ⟨b, off, none⟩ n c ((List.range (n * 2)).map (MFIval M)) hx (by simp) hcells (hrow_one M n) (by unfold maxLen; omega) (by omega) hbase ?_
    intro v' w' h1 h2 _
    refine h v' w' ?_ h2
    rw [Nat.zero_add] at h1
    exact h1
end Go.Proofs.YtlllbahfjihepaaGreat
namespace Go.Proofs.YtlllbahfjihepaaGreat
open Go.RowKit
set_option linter.unusedVariables false
set_option maxHeartbeats 2000000 in
theorem toApp_any (h : Bool) (l : Int) (w : World) :
    Calls Tryz.prog 25 #[.agg #[.bool h, .int .i64 l]] w fun e w' => e = .returned (.agg #[.bool h, .int .i64 l]) ∧ Below w.heap.size w w' := by
  go_enter Tryz.func25, Tryz.ntmps25
  go_wp2
  exact bodyPost_ret (v := .agg #[.bool h, .int .i64 l]) (by simp [results, Tryz.results25, go_sem]) rfl ⟨rfl, by repeat (first | exact Below.refl _ _ | refine Below.drew ?_ | refine Below.alloc ?_ (by first | (simp; done) | (simp; omega) | omega) _ | refine Below.setCell ?_ (by first | (simp; done) | (simp; omega) | omega) _ | refine Below.trans ?_ (Below.mono (by assumption) (by first | (simp; done) | (simp; omega) | omega)))⟩
set_option maxHeartbeats 2000000 in
theorem eqApp_same (h : Bool) (l : Int) (w : World) :
    Calls Tryz.prog 35 #[.agg #[.bool h, .int .i64 l], .agg #[.bool h, .int .i64 l]] w fun e w' => e = .returned (.bool true) ∧ Below w.heap.size w w' := by
  have hx : (h != h) = false := by simp
  go_enter Tryz.func35, Tryz.ntmps35
  go_wp2
  go_ret
  exact ⟨rfl, by repeat (first | exact Below.refl _ _ | refine Below.drew ?_ | refine Below.alloc ?_ (by first | (simp; done) | (simp; omega) | omega) _ | refine Below.setCell ?_ (by first | (simp; done) | (simp; omega) | omega) _ | refine Below.trans ?_ (Below.mono (by assumption) (by first | (simp; done) | (simp; omega) | omega)))⟩
end Go.Proofs.YtlllbahfjihepaaGreat
namespace Go.Proofs.YtlllbahfjihepaaGreat
open Go.RowKit
set_option linter.unusedVariables false
theorem szHeardS_le (a : Option Addr) (n c : Nat) (Z : Int) (w : World) (hm : n ≤ maxLen) (h0 : 0 ≤ Z) (h1 : Z ≤ 1048576) :
    Calls Tryz.prog 16 #[.slice a n c, .int .i64 Z] w fun e w' => ∃ L : Int, e = .returned (.int .i64 L) ∧ (0 ≤ L → n ≤ 1048576 ∧ L ≤ 1048576) ∧ Below w.heap.size w w' := by
  refine (szHeardS_any a n c Z w hm h0 h1).mono ?_
  rintro e w' ⟨rfl, rfl⟩
  refine ⟨_, rfl, fun h => ?_, Below.refl _ _⟩
  split at h
  · rename_i hq; rw [if_pos hq]; constructor <;> omega
  · omega
theorem Box8.kept {w w' : World} {q : Option Nat} {j : Nat} {k fr tu no lo hi sl : Int} {s : ByteArray} (h : Box8 w j k fr tu no lo hi sl s) (hg : w.grownBy w' q) (hq : some j ≠ q) : Box8 w' j k fr tu no lo hi sl s := by
  obtain ⟨h0, h1, h2, h3, h4, h5, h6, h7, h8⟩ := h
  have cc : ∀ i, w'.cell? ⟨j, i, none⟩ = w.cell? ⟨j, i, none⟩ := fun i => cell_grown hg h0 hq
  exact ⟨Nat.lt_of_lt_of_le h0 hg.size, by rw [cc]; exact h1, by rw [cc]; exact h2, by rw [cc]; exact h3, by rw [cc]; exact h4, by rw [cc]; exact h5, by rw [cc]; exact h6, by rw [cc]; exact h7, by rw [cc]; exact h8⟩
end Go.Proofs.YtlllbahfjihepaaGreat
namespace Go.Proofs.YtlllbahfjihepaaGreat
open Go.RowKit
set_option linter.unusedVariables false
set_option maxHeartbeats 2000000 in
theorem appok_any (h : Bool) (l : Int) (w : World) : Calls Tryz.prog 97 #[.agg #[.bool h, .int .i64 l]] w fun e w' => e = .returned (.bool (apB h l)) ∧ Below w.heap.size w w' := by
  have A := Below.nw w (.cells #[.bool h, .int .i64 l] 46)
  by_cases h1 : -1000000000000 ≤ l
  · by_cases h2 : l ≤ 1000000000000
    · have e0 : apB h l = (h || (l == 0)) := by unfold apB inT; rw [decide_eq_true ⟨h1, h2⟩]; rfl
      rw [e0]
      clear e0
      cases h
      · cases hz : (l == 0)
        all_goals
          go_enter Tryz.func97, Tryz.ntmps97
          go_wp2
          go_ret
          exact ⟨by first | rfl | (rw [hz]; rfl) | (simp; done), A⟩
      · go_enter Tryz.func97, Tryz.ntmps97
        go_wp2
        go_ret
        exact ⟨rfl, A⟩
    · have e0 : apB h l = false := by unfold apB inT; rw [decide_eq_false (by omega)]; rfl
      rw [e0]
      clear e0
      go_enter Tryz.func97, Tryz.ntmps97
      go_wp2
      go_ret
      exact ⟨rfl, A⟩
  · have e0 : apB h l = false := by unfold apB inT; rw [decide_eq_false (by omega)]; rfl
    rw [e0]
    clear e0
    go_enter Tryz.func97, Tryz.ntmps97
    go_wp2
    go_ret
    exact ⟨rfl, A⟩
end Go.Proofs.YtlllbahfjihepaaGreat
