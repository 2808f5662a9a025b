/- Contracts of a book: ask with its frame, retry. -/
import Derived.Test.YtlaladalnbdhpaaF7
import Derived.Test.YtlaladalnbdhpaaB9
import Derived.Deep.RegionHeld3
import Derived.Deep.DeepCutAuto
import Derived.WalkKit
import Derived.WalkSpells
import Derived.WalkLawsBesides
import Derived.Deep.RegionHeld
namespace Go.Proofs.Ytlaladalnbdhpaa
open Go.RowKit
set_option linter.unusedVariables false
/- All but two blocks stay. -/
def But2K (p q : Nat) (w w' : World) : Prop := w'.os = w.os ∧ w'.tape = w.tape ∧ w'.output = w.output ∧ w.heap.size ≤ w'.heap.size ∧ ∀ k, k < w.heap.size → k ≠ p → k ≠ q → w'.heap[k]? = w.heap[k]?
theorem But2K.refl (p q : Nat) (w : World) : But2K p q w w := ⟨rfl, rfl, rfl, Nat.le_refl _, fun _ _ _ _ => rfl⟩
theorem But2K.trans {p q : Nat} {a b c : World} (h : But2K p q a b) (k : But2K p q b c) : But2K p q a c :=
  ⟨k.1.trans h.1, k.2.1.trans h.2.1, k.2.2.1.trans h.2.2.1, Nat.le_trans h.2.2.2.1 k.2.2.2.1, fun j hj h1 h2 => (k.2.2.2.2 j (Nat.lt_of_lt_of_le hj h.2.2.2.1) h1 h2).trans (h.2.2.2.2 j hj h1 h2)⟩
theorem But2K.ofBelow {p q : Nat} {w w' : World} (h : Below w.heap.size w w') : But2K p q w w' := ⟨h.os, h.tape, h.output, h.size, fun k hk _ _ => h.block k hk⟩
theorem But2K.left {p q : Nat} {w w' : World} (h : But p w w') : But2K p q w w' := ⟨h.1, h.2.1, h.2.2.1, h.2.2.2.1, fun k hk h1 _ => h.2.2.2.2 k hk h1⟩
theorem But2K.right {p q : Nat} {w w' : World} (h : But q w w') : But2K p q w w' := ⟨h.1, h.2.1, h.2.2.1, h.2.2.2.1, fun k hk _ h1 => h.2.2.2.2 k hk h1⟩
theorem But2K.newK {p q j : Nat} {w w' w'' : World} (h : But2K p q w w') (hb : But j w' w'') (hj : w.heap.size ≤ j) : But2K p q w w'' :=
  ⟨hb.1.trans h.1, hb.2.1.trans h.2.1, hb.2.2.1.trans h.2.2.1, Nat.le_trans h.2.2.2.1 hb.2.2.2.1, fun k hk h1 h2 => (hb.2.2.2.2 k (Nat.lt_of_lt_of_le hk h.2.2.2.1) (by omega)).trans (h.2.2.2.2 k hk h1 h2)⟩
theorem But2K.below {p q B : Nat} {w w' : World} (h : But2K p q w w') (hp : B ≤ p) (hq : B ≤ q) (hs : B ≤ w.heap.size) : Below B w w' := ⟨h.1, h.2.1, h.2.2.1, h.2.2.2.1, fun k hk => h.2.2.2.2 k (by omega) (by omega) (by omega)⟩
theorem But2K.cell {p q k i : Nat} {w w' : World} (h : But2K p q w w') (hk : k < w.heap.size) (h1 : k ≠ p) (h2 : k ≠ q) : w'.cell? ⟨k, i, none⟩ = w.cell? ⟨k, i, none⟩ := by
  have := h.2.2.2.2 k hk h1 h2
  simp only [World.cell?]
  rw [this]
theorem But2K.frozen {p q k i : Nat} {w w' : World} (h : But2K p q w w') (hk : k < w.heap.size) (h1 : k ≠ p) (h2 : k ≠ q) : w'.frozen? ⟨k, i, none⟩ = w.frozen? ⟨k, i, none⟩ := by
  have := h.2.2.2.2 k hk h1 h2
  simp only [World.frozen?]
  rw [this]
theorem Bx3.but2 {w w' : World} {j p q : Nat} {u0 u1 u2 : Value} (h : Bx3 w j u0 u1 u2) (hb : But2K p q w w') (h1 : j ≠ p) (h2 : j ≠ q) : Bx3 w' j u0 u1 u2 := by
  obtain ⟨g0, g1, g2, g3, g4, g5, g6⟩ := h
  exact ⟨Nat.lt_of_lt_of_le g0 hb.2.2.2.1, by rw [hb.cell g0 h1 h2]; exact g1, by rw [hb.cell g0 h1 h2]; exact g2, by rw [hb.cell g0 h1 h2]; exact g3, by rw [hb.frozen g0 h1 h2]; exact g4, by rw [hb.frozen g0 h1 h2]; exact g5, by rw [hb.frozen g0 h1 h2]; exact g6⟩
theorem Bf4.but2 {w w' : World} {j p q : Nat} {x0 x1 x2 x3 : Int} (h : Bf4 w j x0 x1 x2 x3) (hb : But2K p q w w') (h1 : j ≠ p) (h2 : j ≠ q) : Bf4 w' j x0 x1 x2 x3 := by
  obtain ⟨⟨g0, c0, c1, c2, c3⟩, f0, f1, f2, f3⟩ := h
  exact ⟨⟨Nat.lt_of_lt_of_le g0 hb.2.2.2.1, by rw [hb.cell g0 h1 h2]; exact c0, by rw [hb.cell g0 h1 h2]; exact c1, by rw [hb.cell g0 h1 h2]; exact c2, by rw [hb.cell g0 h1 h2]; exact c3⟩, by rw [hb.frozen g0 h1 h2]; exact f0, by rw [hb.frozen g0 h1 h2]; exact f1, by rw [hb.frozen g0 h1 h2]; exact f2, by rw [hb.frozen g0 h1 h2]; exact f3⟩
theorem Cs.but2 {w w' : World} {p q b off N : Nat} {F : Nat → Value} (h : Cs w b off N F) (hb : But2K p q w w') (h1 : b ≠ p) (h2 : b ≠ q) : Cs w' b off N F :=
  ⟨Nat.lt_of_lt_of_le h.1 hb.2.2.2.1, fun j hj => by rw [hb.cell h.1 h1 h2]; exact h.2 j hj⟩
theorem own_two2 {w w' : World} {base p q : Nat} {e : TypeId} {size : Nat} {v : Value} {n : Nat} {xs : List Value} (h : w.ownsRow base e size v n xs) (hb : But2K p q w w') (hp : ∀ g, v.ownBlock = some g → g ≠ p ∧ g ≠ q) : w'.ownsRow base e size v n xs := by
  refine ⟨h.1, ?_⟩
  rcases h.2 with h0 | ⟨g, cap, cur, rfl, h2, h3, h4⟩
  · exact .inl h0
  · have hg := hp g rfl
    exact .inr ⟨g, cap, cur, rfl, h2, (hb.2.2.2.2 g (Array.getElem?_eq_some_iff.1 h3).1 hg.1 hg.2).trans h3, h4⟩
theorem FL.add {F : Int → Option KT} {L : List KT} {a : KT} {nn : Int} (h : FL F L) (ha : a.1 = nn) (hlt : ∀ b ∈ L, b.1 < nn) : FL (fun q => if q = nn then some a else F q) (L ++ [a]) := by
  have h1 := FA.add h ha (fun j hj => hlt _ (by unfold rowL; rw [List.getD_eq_getElem?_getD, List.getElem?_eq_getElem hj]; exact List.getElem_mem hj))
  unfold FL
  rw [List.length_append]
  exact h1.congr fun j hj => by rw [rowL_app]; rfl
set_option maxRecDepth 100000 in
set_option maxHeartbeats 8000000 in
theorem ask_two (bx bm n : Nat) (ep us x y z nn : Int) (F : Int → Option KT) (w : World) (X : Bx3 w bx (.int .i64 ep) (.int .i64 us) (.map (some bm))) (MP : MapK w bm n F) (hne : bx ≠ bm) (hep : 0 ≤ ep ∧ ep ≤ 100000) (hus : 0 ≤ us ∧ us < 1000) (hn : n ≤ 1000) (hnn : ep * 1000 + us = nn) :
    Calls Try.prog 24 #[.pointer (some ⟨bx, 0, none⟩), .int .i64 x, .int .i64 y, .int .i64 z] w fun e w' => e = .returned (.tuple #[.agg #[.int .i64 nn, .int .i64 x, .int .i64 y, .int .i64 z], .bool true]) ∧ Bx3 w' bx (.int .i64 ep) (.int .i64 (us + 1)) (.map (some bm)) ∧ MapK w' bm (n + 1) (fun q => if q = nn then some (kT nn x y z) else F q) ∧ But2K bx bm w w' := by
  have HB : nnB ep us = true := (nn_yes hep hus).1
  have HI : nnI ep us = nn := (nn_yes hep hus).2.trans hnn
  have hwf : (Lit.int .i64 nn).wf = true := by simp only [Lit.wf, Bool.and_eq_true, decide_eq_true_eq]; exact ⟨by show (-9223372036854775808 : Int) ≤ nn; omega, by show nn ≤ (9223372036854775807 : Int); omega⟩
  have huw : IntKind.i64.wrap (us + 1) = us + 1 := Go.IntWalk.i64_in _ ⟨by omega, by omega⟩
  clear hep hus hnn
  have A0 := Below.nw w (.cells #[.int .i64 0, .int .i64 0, .int .i64 0, .int .i64 0] 34)
  have R := Bf4.new w 0 0 0 0 34
  have B := A0
  have hbx := X.1
  have hbm := MP.lt
  replace X := X.below A0
  replace MP := MP.below A0
  clear A0
  go_enter Try.func24, Try.ntmps24
  go_upto_region 1 with fail
  generalize w.alloc (.cells #[.int .i64 0, .int .i64 0, .int .i64 0, .int .i64 0] 34) = wa at *
  obtain ⟨x0, x1, x2, x3, -, -, -⟩ := id X
  refine wp_region_held_drew (S := (fun w' => w'.cell? ⟨bx, 0, none⟩ = some (.int .i64 ep) ∧ w'.cell? ⟨bx, 1, none⟩ = some (.int .i64 us))) (by kernel_rfl) ?_ (fun hHeld => ?_)
  · first | exact ⟨x1, x2⟩ | (simp (maxDischargeDepth := 6) [go_sem, *]; done)
  clear x0 x1 x2 x3
  replace X := X.drew
  replace MP := MP.drew
  replace R := R.drew
  replace B := Below.drew B
  generalize wa.drew = wa at *
  obtain ⟨x0, x1, x2, x3, -, -, -⟩ := id X
  refine wpAnyH_take (i := 0) (v := ?_) (by rw [List.getElem?_toArray]; rfl) (by kernel_rfl) (by kernel_rfl) (by kernel_rfl) (by intro _ _ _ h; exact h) (Or.inl ⟨by rfl, ?_⟩) (by assumption) ?_
  rotate_left
  · (intro w hSw; (try dsimp only at hSw); go_simp; all_goals with_reducible rfl)
  (try simp only [Act.put, List.setIfInBounds_toArray, List.set_cons_zero, List.set_cons_succ])
  refine wpAnyH_take (i := 1) (v := ?_) (by rw [List.getElem?_toArray]; rfl) (by kernel_rfl) (by kernel_rfl) (by kernel_rfl) (by intro _ _ _ h; exact h) (Or.inl ⟨by rfl, ?_⟩) (by assumption) ?_
  rotate_left
  · (intro w hSw; (try dsimp only at hSw); go_simp; all_goals with_reducible rfl)
  (try simp only [Act.put, List.setIfInBounds_toArray, List.set_cons_zero, List.set_cons_succ])
  refine wpAnyH_take (i := 2) (v := ?_) (by rw [List.getElem?_toArray]; rfl) (by kernel_rfl) (by kernel_rfl) (by kernel_rfl) (by intro _ _ _ h; exact h) (Or.inl ⟨by rfl, ?_⟩) (by assumption) ?_
  rotate_left
  · (intro w hSw; (try dsimp only at hSw); go_simp; all_goals with_reducible rfl)
  (try simp only [Act.put, List.setIfInBounds_toArray, List.set_cons_zero, List.set_cons_succ])
  refine wpAnyH_take (i := 3) (v := ?_) (by rw [List.getElem?_toArray]; rfl) (by kernel_rfl) (by kernel_rfl) (by kernel_rfl) (by intro _ _ _ h; exact h) (Or.inl ⟨by rfl, ?_⟩) (by assumption) ?_
  rotate_left
  · (intro w hSw; (try dsimp only at hSw); go_simp; all_goals with_reducible rfl)
  (try simp only [Act.put, List.setIfInBounds_toArray, List.set_cons_zero, List.set_cons_succ])
  refine wpAnyH_take (i := 4) (v := ?_) (by rw [List.getElem?_toArray]; rfl) (by kernel_rfl) (by kernel_rfl) (by kernel_rfl) (by intro _ _ _ h; exact h) (Or.inl ⟨by rfl, ?_⟩) (by assumption) ?_
  rotate_left
  · (intro w hSw; (try dsimp only at hSw); go_simp; all_goals with_reducible rfl)
  (try simp only [Act.put, List.setIfInBounds_toArray, List.set_cons_zero, List.set_cons_succ])
  refine wpAnyH_take (i := 5) (v := ?_) (by rw [List.getElem?_toArray]; rfl) (by kernel_rfl) (by kernel_rfl) (by kernel_rfl) (by intro _ _ _ h; exact h) (Or.inl ⟨by rfl, ?_⟩) (by assumption) ?_
  rotate_left
  · (intro w hSw; (try dsimp only at hSw); go_simp; all_goals with_reducible rfl)
  (try simp only [Act.put, List.setIfInBounds_toArray, List.set_cons_zero, List.set_cons_succ])
  refine wpAnyH_take (i := 6) (v := ?_) (by rw [List.getElem?_toArray]; rfl) (by kernel_rfl) (by kernel_rfl) (by kernel_rfl) (by intro _ _ _ h; exact h) (Or.inl ⟨by rfl, ?_⟩) (by assumption) ?_
  rotate_left
  · (intro w hSw; (try dsimp only at hSw); go_simp; all_goals with_reducible rfl)
  (try simp only [Act.put, List.setIfInBounds_toArray, List.set_cons_zero, List.set_cons_succ])
  refine wpAnyH_take (i := 7) (v := ?_) (by rw [List.getElem?_toArray]; rfl) (by kernel_rfl) (by kernel_rfl) (by kernel_rfl) (by intro _ _ _ h; exact h) (Or.inl ⟨by rfl, ?_⟩) (by assumption) ?_
  rotate_left
  · (intro w hSw; (try dsimp only at hSw); go_simp; all_goals with_reducible rfl)
  (try simp only [Act.put, List.setIfInBounds_toArray, List.set_cons_zero, List.set_cons_succ])
  refine wpAnyH_ready (rs := [8]) (by kernel_rfl) (by simp) ?_
  refine AllReadyH.cons (by rw [List.getElem?_toArray]; rfl) (fun K hK => ?_) AllReadyH.nil
  go_simp
  refine (implNonceOf_any _ _ _).mono ?_; rintro e w' ⟨rfl, rfl⟩; rw [HB, HI]
  (try go_wp2_with fail)
  refine hK.out _ _ ?_ (fun hHeld => ?_)
  · first | exact ⟨x1, x2⟩ | (simp (maxDischargeDepth := 6) [go_sem, *]; done)
  clear hK K
  (try simp only [Act.put, List.setIfInBounds_toArray, List.set_cons_zero, List.set_cons_succ])
  refine wpAnyH_take (i := 9) (v := ?_) (by rw [List.getElem?_toArray]; rfl) (by kernel_rfl) (by kernel_rfl) (by kernel_rfl) (by intro _ _ _ h; exact h) (Or.inl ⟨by rfl, ?_⟩) (by assumption) ?_
  rotate_left
  · (intro w hSw; (try dsimp only at hSw); go_simp; all_goals with_reducible rfl)
  (try simp only [Act.put, List.setIfInBounds_toArray, List.set_cons_zero, List.set_cons_succ])
  refine wpAnyH_take (i := 10) (v := ?_) (by rw [List.getElem?_toArray]; rfl) (by kernel_rfl) (by kernel_rfl) (by kernel_rfl) (by intro _ _ _ h; exact h) (Or.inl ⟨by rfl, ?_⟩) (by assumption) ?_
  rotate_left
  · (intro w hSw; (try dsimp only at hSw); go_simp; all_goals with_reducible rfl)
  (try simp only [Act.put, List.setIfInBounds_toArray, List.set_cons_zero, List.set_cons_succ])
  refine wpAnyH_take (i := 11) (v := ?_) (by rw [List.getElem?_toArray]; rfl) (by kernel_rfl) (by kernel_rfl) (by kernel_rfl) (by intro _ _ _ h; exact h) (Or.inl ⟨by rfl, ?_⟩) (by assumption) ?_
  rotate_left
  · (intro w hSw; (try dsimp only at hSw); go_simp; all_goals with_reducible rfl)
  (try simp only [Act.put, List.setIfInBounds_toArray, List.set_cons_zero, List.set_cons_succ])
  refine wpAnyH_take (i := 12) (v := ?_) (by rw [List.getElem?_toArray]; rfl) (by kernel_rfl) (by kernel_rfl) (by kernel_rfl) (by intro _ _ _ h; exact h) (Or.inl ⟨by rfl, ?_⟩) (by assumption) ?_
  rotate_left
  · (intro w hSw; (try dsimp only at hSw); go_simp; all_goals with_reducible rfl)
  (try simp only [Act.put, List.setIfInBounds_toArray, List.set_cons_zero, List.set_cons_succ])
  refine wpAnyH_take (i := 13) (v := ?_) (by rw [List.getElem?_toArray]; rfl) (by kernel_rfl) (by kernel_rfl) (by kernel_rfl) (by intro _ _ _ h; exact h) (Or.inl ⟨by rfl, ?_⟩) (by assumption) ?_
  rotate_left
  · (intro w hSw; (try dsimp only at hSw); go_simp; all_goals with_reducible rfl)
  (try simp only [Act.put, List.setIfInBounds_toArray, List.set_cons_zero, List.set_cons_succ])
  refine wpAnyH_done (by kernel_rfl) ?_ _
  clear x0 x1 x2 x3
  have hlt1 : w.heap.size < wa.heap.size := R.1.1
  have A1 := Below.nw wa (.cells #[.int .i64 nn, .int .i64 x, .int .i64 y, .int .i64 z] 34)
  have Kx := Bf4.new wa nn x y z 34
  replace X := X.below A1
  replace MP := MP.below A1
  replace R := R.below A1
  replace B := B.trans (A1.mono B.size)
  clear A1
  go_upto_region 5 with fail
  generalize hbk : wa.heap.size = bk at *
  generalize wa.alloc (.cells #[.int .i64 nn, .int .i64 x, .int .i64 y, .int .i64 z] 34) = wb at *
  obtain ⟨x0, x1, x2, x3, -, -, -⟩ := id X
  obtain ⟨⟨k0, k1, k2, k3, k4⟩, -, -, -, -⟩ := id Kx
  refine wp_region_held_drew (S := (fun w' => w'.cell? ⟨bx, 2, none⟩ = some (.map (some bm)) ∧ w'.cell? ⟨bk, 0, none⟩ = some (.int .i64 nn) ∧ w'.cell? ⟨bk, 1, none⟩ = some (.int .i64 x) ∧ w'.cell? ⟨bk, 2, none⟩ = some (.int .i64 y) ∧ w'.cell? ⟨bk, 3, none⟩ = some (.int .i64 z))) (by kernel_rfl) ?_ (fun hHeld => ?_)
  · first | exact ⟨x3, k1, k2, k3, k4⟩ | (simp (maxDischargeDepth := 6) [go_sem, *]; done)
  clear x0 x1 x2 x3
  clear k0 k1 k2 k3 k4
  replace X := X.drew
  replace MP := MP.drew
  replace R := R.drew
  replace Kx := Kx.drew
  replace B := Below.drew B
  generalize wb.drew = v at *
  obtain ⟨x0, x1, x2, x3, -, -, -⟩ := id X
  obtain ⟨⟨k0, k1, k2, k3, k4⟩, -, -, -, -⟩ := id Kx
  obtain ⟨w10, hup, MP1, hg⟩ := MP.put hwf (by unfold maxLen; omega) (kT nn x y z)
  simp only [kv, kT] at hup
  refine wpAnyH_take (i := 0) (v := ?_) (by rw [List.getElem?_toArray]; rfl) (by kernel_rfl) (by kernel_rfl) (by kernel_rfl) (by intro _ _ _ h; exact h) (Or.inl ⟨by rfl, ?_⟩) (by assumption) ?_
  rotate_left
  · (intro w hSw; (try dsimp only at hSw); go_simp; all_goals with_reducible rfl)
  (try simp only [Act.put, List.setIfInBounds_toArray, List.set_cons_zero, List.set_cons_succ])
  refine wpAnyH_take (i := 1) (v := ?_) (by rw [List.getElem?_toArray]; rfl) (by kernel_rfl) (by kernel_rfl) (by kernel_rfl) (by intro _ _ _ h; exact h) (Or.inl ⟨by rfl, ?_⟩) (by assumption) ?_
  rotate_left
  · (intro w hSw; (try dsimp only at hSw); go_simp; all_goals with_reducible rfl)
  (try simp only [Act.put, List.setIfInBounds_toArray, List.set_cons_zero, List.set_cons_succ])
  refine wpAnyH_take (i := 2) (v := ?_) (by rw [List.getElem?_toArray]; rfl) (by kernel_rfl) (by kernel_rfl) (by kernel_rfl) (by intro _ _ _ h; exact h) (Or.inl ⟨by rfl, ?_⟩) (by assumption) ?_
  rotate_left
  · (intro w hSw; (try dsimp only at hSw); go_simp; all_goals with_reducible rfl)
  (try simp only [Act.put, List.setIfInBounds_toArray, List.set_cons_zero, List.set_cons_succ])
  refine wpAnyH_take (i := 3) (v := ?_) (by rw [List.getElem?_toArray]; rfl) (by kernel_rfl) (by kernel_rfl) (by kernel_rfl) (by intro _ _ _ h; exact h) (Or.inl ⟨by rfl, ?_⟩) (by assumption) ?_
  rotate_left
  · (intro w hSw; (try dsimp only at hSw); go_simp; all_goals with_reducible rfl)
  (try simp only [Act.put, List.setIfInBounds_toArray, List.set_cons_zero, List.set_cons_succ])
  refine wpAnyH_take (i := 4) (v := ?_) (by rw [List.getElem?_toArray]; rfl) (by kernel_rfl) (by kernel_rfl) (by kernel_rfl) (by intro _ _ _ h; exact h) (Or.inl ⟨by rfl, ?_⟩) (by assumption) ?_
  rotate_left
  · (intro w hSw; (try dsimp only at hSw); go_simp; all_goals with_reducible rfl)
  (try simp only [Act.put, List.setIfInBounds_toArray, List.set_cons_zero, List.set_cons_succ])
  refine wpAnyH_take (i := 5) (v := ?_) (by rw [List.getElem?_toArray]; rfl) (by kernel_rfl) (by kernel_rfl) (by kernel_rfl) (by intro _ _ _ h; exact h) (Or.inl ⟨by rfl, ?_⟩) (by assumption) ?_
  rotate_left
  · (intro w hSw; (try dsimp only at hSw); go_simp; all_goals with_reducible rfl)
  (try simp only [Act.put, List.setIfInBounds_toArray, List.set_cons_zero, List.set_cons_succ])
  refine wpAnyH_ready (rs := [6]) (by kernel_rfl) (by simp) ?_
  refine (AllReadyH.cons (by rw [List.getElem?_toArray]; rfl) (fun K hK => ?_) AllReadyH.nil)
  go_simp
  clear x0 x1 x2 x3; clear k0 k1 k2 k3 k4 hup MP; (have PB := But.ofGrownK hg); (replace X := X.but PB hne); (replace R := R.but PB (by omega)); (replace Kx := Kx.but PB (by omega)); (have B1 : But2K bx bm w w10 := (But2K.ofBelow B).trans (But2K.right PB)); clear hg PB; obtain ⟨x0, x1, x2, x3, -, -, -⟩ := id X; obtain ⟨⟨k0, k1, k2, k3, k4⟩, -, -, -, -⟩ := id Kx
  refine hK.out _ _ ?_ (fun hHeld => ?_)
  · first | exact ⟨x3, k1, k2, k3, k4⟩ | (simp (maxDischargeDepth := 6) [go_sem, *]; done)
  clear hK K
  (try simp only [Act.put, List.setIfInBounds_toArray, List.set_cons_zero, List.set_cons_succ])
  refine wpAnyH_done (by kernel_rfl) ?_ _
  have P6 := But.oneK w10 bx 1 (.int .i64 (us + 1))
  have X6 := X.set1 (.int .i64 (us + 1))
  have MP6 := MP1.but P6 (fun e => hne e.symm)
  have R6 := R.but P6 (by omega)
  have K6 := Kx.but P6 (by omega)
  have B6 := B1.trans (But2K.left P6)
  obtain ⟨u0, u1, u2, u3, u4, u5, u6⟩ := X
  clear x0 x1 x2 x3
  clear k0 k1 k2 k3 k4 R Kx MP1
  go_upto_region 7 with fail
  clear u0 u1 u2 u3 u4 u5 u6 P6
  generalize w10.setCell ⟨bx, 1, none⟩ (.int .i64 (us + 1)) = w11 at *
  have P7 := put4_but w11 w.heap.size nn x y z
  have RQ := R6.set nn x y z
  have XQ := X6.but P7 (by omega)
  have MQ := MP6.but P7 (by omega)
  have BQ := B6.newK P7 (Nat.le_refl _)
  obtain ⟨⟨r0, r1, r2, r3, r4⟩, r5, r6, r7, r8⟩ := R6
  obtain ⟨⟨k0, k1, k2, k3, k4⟩, -, -, -, -⟩ := K6
  clear X6 MP6 P7
  go_wp2_with fail
  unfold put4 at RQ XQ MQ BQ
  generalize (((w11.setCell ⟨w.heap.size, 0, none⟩ (.int .i64 nn)).setCell ⟨w.heap.size, 1, none⟩ (.int .i64 x)).setCell ⟨w.heap.size, 2, none⟩ (.int .i64 y)).setCell ⟨w.heap.size, 3, none⟩ (.int .i64 z) = wq at *
  obtain ⟨⟨q0, q1, q2, q3, q4⟩, -, -, -, -⟩ := RQ
  exact bodyPost_ret (v := .tuple #[.agg #[.int .i64 nn, .int .i64 x, .int .i64 y, .int .i64 z], .bool true]) (by simp (maxDischargeDepth := 6) [results, Try.results24, go_sem, q1, q2, q3, q4]) rfl ⟨rfl, XQ, MQ, BQ⟩
set_option maxRecDepth 100000 in
set_option maxHeartbeats 8000000 in
theorem retry_four (bx bm n : Nat) (ep us y0 y1 y2 x : Int) (F : Int → Option KT) (w : World) (X : Bx3 w bx (.int .i64 ep) (.int .i64 us) (.map (some bm))) (MP : MapK w bm n F) :
    Calls Try.prog 26 #[.pointer (some ⟨bx, 0, none⟩), .agg #[.int .i64 y0, .int .i64 y1, .int .i64 y2, .int .i64 4], .int .i64 x] w fun e w' => e = .returned (.tuple #[.agg #[.int .i64 0, .int .i64 0, .int .i64 0, .int .i64 0], .bool false]) ∧ Below w.heap.size w w' := by
  have R := Bf4.new (w.alloc (.cells #[.int .i64 y0, .int .i64 y1, .int .i64 y2, .int .i64 4] 34)) 0 0 0 0 34
  have A1 := Below.nw w (.cells #[.int .i64 y0, .int .i64 y1, .int .i64 y2, .int .i64 4] 34)
  have A2 := Below.nw (w.alloc (.cells #[.int .i64 y0, .int .i64 y1, .int .i64 y2, .int .i64 4] 34)) (.cells #[.int .i64 0, .int .i64 0, .int .i64 0, .int .i64 0] 34)
  have Kx := (Bf4.new w y0 y1 y2 4 34).below A2
  have B := A1.trans (A2.mono A1.size)
  have hbx := X.1
  have hbm := MP.lt
  replace X := (X.below A1).below A2
  replace MP := (MP.below A1).below A2
  simp only [World.size_alloc] at R
  clear A1 A2
  go_enter Try.func26, Try.ntmps26
  go_upto_region 1 with fail
  generalize (w.alloc (.cells #[.int .i64 y0, .int .i64 y1, .int .i64 y2, .int .i64 4] 34)).alloc (.cells #[.int .i64 0, .int .i64 0, .int .i64 0, .int .i64 0] 34) = wa at *
  obtain ⟨⟨k0, k1, k2, k3, k4⟩, -, -, -, -⟩ := id Kx
  have hJ1 := R.1.1
  go_upto_region 2 with fail
  clear k0 k1 k2 k3 k4 Kx X MP
  generalize wa = wz at *
  have RQ := R.set 0 0 0 0
  have P7 := put4_but wz (w.heap.size + 1) 0 0 0 0
  have HQ : Hid (Below w.heap.size w (put4 wz (w.heap.size + 1) 0 0 0 0)) := B.trans (P7.below (B := w.heap.size) (by omega) B.size)
  obtain ⟨⟨r0, r1, r2, r3, r4⟩, r5, r6, r7, r8⟩ := R
  clear P7
  go_wp2_with fail
  unfold put4 at RQ HQ
  generalize (((wz.setCell ⟨w.heap.size + 1, 0, none⟩ (.int .i64 0)).setCell ⟨w.heap.size + 1, 1, none⟩ (.int .i64 0)).setCell ⟨w.heap.size + 1, 2, none⟩ (.int .i64 0)).setCell ⟨w.heap.size + 1, 3, none⟩ (.int .i64 0) = wq at *
  obtain ⟨⟨q0, q1, q2, q3, q4⟩, -, -, -, -⟩ := RQ
  exact bodyPost_ret (v := .tuple #[.agg #[.int .i64 0, .int .i64 0, .int .i64 0, .int .i64 0], .bool false]) (by simp (maxDischargeDepth := 6) [results, Try.results26, go_sem, q1, q2, q3, q4]) rfl ⟨rfl, HQ.out⟩
set_option maxRecDepth 100000 in
set_option maxHeartbeats 8000000 in
theorem retry_no (bx bm n : Nat) (ep us y0 y1 y2 y3 x : Int) (F : Int → Option KT) (w : World) (X : Bx3 w bx (.int .i64 ep) (.int .i64 us) (.map (some bm))) (MP : MapK w bm n F) (h4 : ¬ y3 = 4) (hy3 : 1 ≤ y3 ∧ y3 ≤ 4) (hu : Hid (us = 1000)) :
    Calls Try.prog 26 #[.pointer (some ⟨bx, 0, none⟩), .agg #[.int .i64 y0, .int .i64 y1, .int .i64 y2, .int .i64 y3], .int .i64 x] w fun e w' => e = .returned (.tuple #[.agg #[.int .i64 0, .int .i64 0, .int .i64 0, .int .i64 0], .bool false]) ∧ Below w.heap.size w w' := by
  have hw3 : IntKind.i64.wrap (y3 + 1) = y3 + 1 := Go.IntWalk.i64_in _ ⟨by omega, by omega⟩
  have h4' : (y3 == 4) = false := by simpa using h4
  have R := Bf4.new (w.alloc (.cells #[.int .i64 y0, .int .i64 y1, .int .i64 y2, .int .i64 y3] 34)) 0 0 0 0 34
  have A1 := Below.nw w (.cells #[.int .i64 y0, .int .i64 y1, .int .i64 y2, .int .i64 y3] 34)
  have A2 := Below.nw (w.alloc (.cells #[.int .i64 y0, .int .i64 y1, .int .i64 y2, .int .i64 y3] 34)) (.cells #[.int .i64 0, .int .i64 0, .int .i64 0, .int .i64 0] 34)
  have Kx := (Bf4.new w y0 y1 y2 y3 34).below A2
  have B := A1.trans (A2.mono A1.size)
  have hbx := X.1
  have hbm := MP.lt
  replace X := (X.below A1).below A2
  replace MP := (MP.below A1).below A2
  simp only [World.size_alloc] at R
  clear A1 A2
  go_enter Try.func26, Try.ntmps26
  go_upto_region 1 with fail
  generalize (w.alloc (.cells #[.int .i64 y0, .int .i64 y1, .int .i64 y2, .int .i64 y3] 34)).alloc (.cells #[.int .i64 0, .int .i64 0, .int .i64 0, .int .i64 0] 34) = wa at *
  obtain ⟨⟨k0, k1, k2, k3, k4⟩, -, -, -, -⟩ := id Kx
  have hJ1 := R.1.1
  go_wp2_with fail
  clear k0 k1 k2 k3 k4
  refine (ask_no bx bm n ep us y1 x (y3 + 1) F wa X MP hu).mono ?_
  rintro e wz ⟨rfl, hb⟩
  replace R := R.below hb
  replace B := B.trans (hb.mono B.size)
  clear hb X MP Kx
  have RQ := R.set 0 0 0 0
  have P7 := put4_but wz (w.heap.size + 1) 0 0 0 0
  have HQ : Hid (Below w.heap.size w (put4 wz (w.heap.size + 1) 0 0 0 0)) := B.trans (P7.below (B := w.heap.size) (by omega) B.size)
  obtain ⟨⟨r0, r1, r2, r3, r4⟩, r5, r6, r7, r8⟩ := R
  clear P7
  go_wp2_with fail
  unfold put4 at RQ HQ
  generalize (((wz.setCell ⟨w.heap.size + 1, 0, none⟩ (.int .i64 0)).setCell ⟨w.heap.size + 1, 1, none⟩ (.int .i64 0)).setCell ⟨w.heap.size + 1, 2, none⟩ (.int .i64 0)).setCell ⟨w.heap.size + 1, 3, none⟩ (.int .i64 0) = wq at *
  obtain ⟨⟨q0, q1, q2, q3, q4⟩, -, -, -, -⟩ := RQ
  exact bodyPost_ret (v := .tuple #[.agg #[.int .i64 0, .int .i64 0, .int .i64 0, .int .i64 0], .bool false]) (by simp (maxDischargeDepth := 6) [results, Try.results26, go_sem, q1, q2, q3, q4]) rfl ⟨rfl, HQ.out⟩
set_option maxRecDepth 100000 in
set_option maxHeartbeats 8000000 in
theorem retry_yes (bx bm n : Nat) (ep us y0 y1 y2 y3 x : Int) (F : Int → Option KT) (w : World) (X : Bx3 w bx (.int .i64 ep) (.int .i64 us) (.map (some bm))) (MP : MapK w bm n F) (hne : bx ≠ bm) (h4 : ¬ y3 = 4) (hy3 : 1 ≤ y3 ∧ y3 ≤ 4) (hep : 0 ≤ ep ∧ ep ≤ 100000) (hus : 0 ≤ us ∧ us < 1000) (hn : n ≤ 1000) (nn : Int) (hnn : ep * 1000 + us = nn) :
    Calls Try.prog 26 #[.pointer (some ⟨bx, 0, none⟩), .agg #[.int .i64 y0, .int .i64 y1, .int .i64 y2, .int .i64 y3], .int .i64 x] w fun e w' => e = .returned (.tuple #[.agg #[.int .i64 nn, .int .i64 y1, .int .i64 x, .int .i64 (y3 + 1)], .bool true]) ∧ Bx3 w' bx (.int .i64 ep) (.int .i64 (us + 1)) (.map (some bm)) ∧ MapK w' bm (n + 1) (fun q => if q = nn then some (kT nn y1 x (y3 + 1)) else F q) ∧ But2K bx bm w w' := by
  have hw3 : IntKind.i64.wrap (y3 + 1) = y3 + 1 := Go.IntWalk.i64_in _ ⟨by omega, by omega⟩
  have h4' : (y3 == 4) = false := by simpa using h4
  have R := Bf4.new (w.alloc (.cells #[.int .i64 y0, .int .i64 y1, .int .i64 y2, .int .i64 y3] 34)) 0 0 0 0 34
  have A1 := Below.nw w (.cells #[.int .i64 y0, .int .i64 y1, .int .i64 y2, .int .i64 y3] 34)
  have A2 := Below.nw (w.alloc (.cells #[.int .i64 y0, .int .i64 y1, .int .i64 y2, .int .i64 y3] 34)) (.cells #[.int .i64 0, .int .i64 0, .int .i64 0, .int .i64 0] 34)
  have Kx := (Bf4.new w y0 y1 y2 y3 34).below A2
  have B := A1.trans (A2.mono A1.size)
  have hbx := X.1
  have hbm := MP.lt
  replace X := (X.below A1).below A2
  replace MP := (MP.below A1).below A2
  simp only [World.size_alloc] at R
  clear A1 A2
  go_enter Try.func26, Try.ntmps26
  go_upto_region 1 with fail
  generalize (w.alloc (.cells #[.int .i64 y0, .int .i64 y1, .int .i64 y2, .int .i64 y3] 34)).alloc (.cells #[.int .i64 0, .int .i64 0, .int .i64 0, .int .i64 0] 34) = wa at *
  obtain ⟨⟨k0, k1, k2, k3, k4⟩, -, -, -, -⟩ := id Kx
  have hJ1 := R.1.1
  go_wp2_with fail
  clear k0 k1 k2 k3 k4
  refine (ask_two bx bm n ep us y1 x (y3 + 1) nn F wa X MP hne hep hus hn hnn).mono ?_
  rintro e wz ⟨rfl, X5, MP5, hb⟩
  replace R := R.but2 hb (by omega) (by omega)
  have B2 : But2K bx bm w wz := (But2K.ofBelow B).trans hb
  clear hb X MP Kx hnn hus hep
  have RQ := R.set nn y1 x (y3 + 1)
  have P7 := put4_but wz (w.heap.size + 1) nn y1 x (y3 + 1)
  have HQ : Hid (Bx3 (put4 wz (w.heap.size + 1) nn y1 x (y3 + 1)) bx (.int .i64 ep) (.int .i64 (us + 1)) (.map (some bm)) ∧ MapK (put4 wz (w.heap.size + 1) nn y1 x (y3 + 1)) bm (n + 1) (fun q => if q = nn then some (kT nn y1 x (y3 + 1)) else F q) ∧ But2K bx bm w (put4 wz (w.heap.size + 1) nn y1 x (y3 + 1))) := ⟨X5.but P7 (by omega), MP5.but P7 (by omega), B2.newK P7 (by omega)⟩
  clear X5 MP5
  obtain ⟨⟨r0, r1, r2, r3, r4⟩, r5, r6, r7, r8⟩ := R
  clear P7
  go_wp2_with fail
  unfold put4 at RQ HQ
  generalize (((wz.setCell ⟨w.heap.size + 1, 0, none⟩ (.int .i64 nn)).setCell ⟨w.heap.size + 1, 1, none⟩ (.int .i64 y1)).setCell ⟨w.heap.size + 1, 2, none⟩ (.int .i64 x)).setCell ⟨w.heap.size + 1, 3, none⟩ (.int .i64 (y3 + 1)) = wq at *
  obtain ⟨⟨q0, q1, q2, q3, q4⟩, -, -, -, -⟩ := RQ
  exact bodyPost_ret (v := .tuple #[.agg #[.int .i64 nn, .int .i64 y1, .int .i64 x, .int .i64 (y3 + 1)], .bool true]) (by simp (maxDischargeDepth := 6) [results, Try.results26, go_sem, q1, q2, q3, q4]) rfl ⟨rfl, HQ.out⟩
end Go.Proofs.Ytlaladalnbdhpaa
