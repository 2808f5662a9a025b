/- The fields of an op (the program). -/
import Derived.Laws.AppendOwnNone
import Derived.Test.YtddjiamollfplaaGreatDoorMC0
import Derived.Test.YtddjiamollfplaaGreatDoorMC15
import Derived.Test.YtddjiamollfplaaGreatDoorMC16
namespace Go.Proofs.YtddjiamollfplaaGreatDoor
open Go.RowKit
set_option linter.unusedVariables false
def ptR (L : List Addr) : List Value := L.map fun a => Value.pointer (some a)
theorem jO (L : List Addr) : (ptR L).length = L.length := by simp [ptR]
theorem mu (L : List Addr) : ∀ u ∈ ptR L, u.oneCell' = true := by
 intro u hu
 obtain ⟨x, _, rfl⟩ := List.mem_map.1 hu
 rfl
theorem mt (L M : List Addr) : ptR (L ++ M) = ptR L ++ ptR M := by simp [ptR]
theorem kT : (Tryz.prog.info? 113).map (fun i => (i.zero, i.size, i.bytes)) = some (some (.pointer none), 1, 8) := by kernel_rfl
theorem lv (w : World) (M : List Addr) : ∀ j u, (ptR M)[j]? = some u → (w.alloc (.cells (ptR M).toArray 113)).cell? ((⟨w.heap.size, 0, none⟩ : Addr).add j) = some u := by
 intro j u h
 rw [fI, Nat.zero_add]
 simpa using h
theorem bW (w : World) (L : List Addr) (hL : L.length ≤ 64) : (w.alloc (.cells (ptR L).toArray 113)).ownsRow w.heap.size 113 1 (.slice (some ⟨w.heap.size, 0, none⟩) L.length L.length) L.length (ptR L) := by
 refine ⟨by rw [jO, Nat.mul_one], .inr ⟨w.heap.size, L.length, (ptR L).toArray, rfl, Nat.le_refl _, ?_, Nat.le_refl _, by unfold maxLen; omega, by simp [ptR], ?_⟩⟩
 ·show (w.heap.push _)[w.heap.size]? = _
  exact Array.getElem?_push_size
 ·simp only [ptR, Nat.mul_one]
  exact List.take_of_length_le (by simp)
theorem bJ {w w' : World} {B k : Nat} {T : TypeId} {sz n : Nat} {v : Value} {xs : List Value} (h : w.ownsRow B T sz v n xs) (hb : But k w w') (ho : k < B) : w'.ownsRow B T sz v n xs := by
 refine ⟨h.1, ?_⟩
 rcases h.2 with q | ⟨g, cap, cur, e, h1, h2, h3⟩
 ·exact .inl q
 ·exact .inr ⟨g, cap, cur, e, h1, by rw [hb.2.2.2.2 g (Array.getElem?_eq_some_iff.1 h2).1 (by omega)]; exact h2, h3⟩
theorem ax {w w' : World} {B : Nat} {T : TypeId} {sz n : Nat} {v : Value} {xs : List Value} (h : w.ownsRow B T sz v n xs) (hb : Below w.heap.size w w') : w'.ownsRow B T sz v n xs := by
 refine ⟨h.1, ?_⟩
 rcases h.2 with q | ⟨g, cap, cur, e, h1, h2, h3⟩
 ·exact .inl q
 ·exact .inr ⟨g, cap, cur, e, h1, by rw [hb.block g (Array.getElem?_eq_some_iff.1 h2).1]; exact h2, h3⟩
theorem kn {w : World} {ops : Array Oper} {rest : List Oper} {o : Oper} {a : Act} {Q : Exit → Act → World → Prop} (hgd : o.guard = none) (s x : Operand)
 (ho : o.op = .call { callee := .builtin .append, args := #[s, x], argTypes := #[47, 47] }) (base : Nat) (L M : List Addr) (v : Value) (hs : a.eval s = v) (hown : w.ownsRow base 113 1 v L.length (ptR L))
 (ad : Addr) (c : Nat) (hx : a.eval x = .slice (some ad) M.length c) (hM : ∀ j u, (ptR M)[j]? = some u → w.cell? (ad.add j) = some u) (hL : L.length + M.length ≤ 64) (hbase : base ≤ w.heap.size)
 (h : ∀ v' w', w'.ownsRow base 113 1 v' (L ++ M).length (ptR (L ++ M)) → w.grownBy w' v.ownBlock → wpList Tryz.prog ops Q rest (a.put o.dst v') w') :
 wpList Tryz.prog ops Q (o :: rest) a w := by
 obtain ⟨i0, hi, hz0, hz1, hz2⟩ := info_parts kT
 refine wpList_append_own w hgd s x 47 ho base 113 i0 (.pointer none) 1 8 Tryz.underlying47 hi hz0 hz1 hz2 rfl (by decide) v L.length (ptR L) hs hown ad M.length c (ptR M) hx (by rw [jO, Nat.mul_one]) hM (mu M) (by unfold maxLen; omega) (by omega) hbase ?_
 intro v' w' h1 h2 _
 exact h v' w' (by rw [mt, List.length_append]; exact h1) h2
theorem aT {w w' : World} {B : Nat} {T : TypeId} {sz n : Nat} {v : Value} {xs : List Value} (h : w.ownsRow B T sz v n xs) (hg : w.grownBy w' v.ownBlock) (hb : B ≤ w.heap.size) : Below B w w' :=
 Below.grown (Below.refl B w) hg hb (fun k hk => (World.ownsRow.lt h k hk).1)
def psL (ob : Nat) (ad : Addr) : Nat → List Addr
 | 0 => [⟨ob, 3, none⟩]
 | j + 1 => psL ob ad j ++ [ad.add j]
theorem bu (ob : Nat) (ad : Addr) : ∀ j, (psL ob ad j).length = 1 + j
 | 0 => rfl
 | j + 1 => by rw [psL, List.length_append, bu ob ad j]; show 1 + j + 1 = 1 + (j + 1); omega
def psP (ob : Nat) (p : Option Addr) (n : Nat) : List Addr := match p with | some ad => psL ob ad n | none => [⟨ob, 3, none⟩]
def opA (ob : Nat) (p : Option Addr) (n : Nat) (k : Int) : List Addr := if k = 1 then psP ob p n else if k = 4 then [⟨ob, 1, none⟩, ⟨ob, 3, none⟩, ⟨ob, 4, none⟩] else if k = 5 then [⟨ob, 1, none⟩, ⟨ob, 2, none⟩] else if k = 9 then [⟨ob, 1, none⟩, ⟨ob, 3, none⟩] else if k = 10 ∨ k = 11 ∨ k = 12 then [⟨ob, 3, none⟩] else if k = 13 then [⟨ob, 3, none⟩, ⟨ob, 4, none⟩] else if k = 14 then [⟨ob, 1, none⟩, ⟨ob, 2, none⟩] else [⟨ob, 1, none⟩]
def opX (ob : Nat) (k : Int) : Value := if k = 9 ∨ k = 14 then .pointer (some ⟨ob, 5, none⟩) else .pointer none
attribute [-go_sem] loadCells storeCells in
set_option maxRecDepth 100000 in
set_option maxHeartbeats 16000000 in
theorem bp (ob : Nat) (w : World) :
 Calls Tryz.prog 57 #[.pointer (some ⟨ob, 0, none⟩)] w fun e w' => ∃ u, e = .returned (.agg #[u, .pointer none]) ∧ w'.ownsRow w.heap.size 113 1 u 1 (ptR [⟨ob, 1, none⟩]) ∧ Below w.heap.size w w' := by
 have B := Below.nw w (.cells #[.slice none 0 0, .pointer none] 50)
 have R := Bo.new w #[.slice none 0 0, .pointer none] 50
 go_enter Tryz.func57, Tryz.ntmps57
 go_upto_region 1 with fail
 generalize w.alloc (.cells #[.slice none 0 0, .pointer none] 50) = v0 at *
 have HQ0 : ∀ (u : World), Below v0.heap.size v0 u → w.heap.size + 1 ≤ u.heap.size := fun u h => Nat.le_trans R.1 h.size
 have XB : Below v0.heap.size v0 v0 := Below.refl _ _
 have O : (v0.alloc (.cells #[.pointer (some ⟨ob, 1, none⟩)] 113)).ownsRow v0.heap.size 113 1 (.slice (some ⟨v0.heap.size, 0, none⟩) 1 1) 1 (ptR [⟨ob, 1, none⟩]) := bW v0 [⟨ob, 1, none⟩] (by show (1 : Nat) ≤ 64; omega)
 have hqw : w.heap.size + 1 ≤ v0.heap.size := HQ0 v0 XB
 have XB7 : Below v0.heap.size v0 (v0.alloc (.cells #[.pointer (some ⟨ob, 1, none⟩)] 113)) := Below.nw v0 _
 have hz7 : v0.heap.size < (v0.alloc (.cells #[.pointer (some ⟨ob, 1, none⟩)] 113)).heap.size := by simp
 replace XB := XB.trans (XB7.mono XB.size)
 clear XB7
 have hst : (storeCells ⟨w.heap.size, 0, none⟩ [.slice (some ⟨v0.heap.size, 0, none⟩) 1 1, .pointer none] 0).run Tryz.prog (v0.alloc (.cells #[.pointer (some ⟨ob, 1, none⟩)] 113)) = .ok () (ac (v0.alloc (.cells #[.pointer (some ⟨ob, 1, none⟩)] 113)) w.heap.size 0 [.slice (some ⟨v0.heap.size, 0, none⟩) 1 1, .pointer none]) := Bo.store (P := Tryz.prog) (b := 0) [.slice (some ⟨v0.heap.size, 0, none⟩) 1 1, .pointer none] 0 0 (R.below XB) rfl (show 0 + 2 ≤ 2 by decide) (List.forall_mem_cons.2 ⟨rfl, (List.forall_mem_cons.2 ⟨rfl, fun _ h => nomatch h⟩)⟩)
 have R1 : Bo (ac (v0.alloc (.cells #[.pointer (some ⟨ob, 1, none⟩)] 113)) w.heap.size 0 [.slice (some ⟨v0.heap.size, 0, none⟩) 1 1, .pointer none]) w.heap.size #[.slice (some ⟨v0.heap.size, 0, none⟩) 1 1, .pointer none] := Bo.put [.slice (some ⟨v0.heap.size, 0, none⟩) 1 1, .pointer none] 0 (R.below XB)
 have hb : But w.heap.size (v0.alloc (.cells #[.pointer (some ⟨ob, 1, none⟩)] 113)) (ac (v0.alloc (.cells #[.pointer (some ⟨ob, 1, none⟩)] 113)) w.heap.size 0 [.slice (some ⟨v0.heap.size, 0, none⟩) 1 1, .pointer none]) := ak [.slice (some ⟨v0.heap.size, 0, none⟩) 1 1, .pointer none] (v0.alloc (.cells #[.pointer (some ⟨ob, 1, none⟩)] 113)) (v0.alloc (.cells #[.pointer (some ⟨ob, 1, none⟩)] 113)) 0 (But.refl _ _)
 have BF := ai (k := w.heap.size) [.slice (some ⟨v0.heap.size, 0, none⟩) 1 1, .pointer none] w (v0.alloc (.cells #[.pointer (some ⟨ob, 1, none⟩)] 113)) 0 (B.trans (XB.mono B.size)) (Nat.le_refl _)
 go_wp2_with (rw [hst])
 have OF := bJ O hb hqw
 have hL0 := R1.load (P := Tryz.prog) (show (#[.slice (some ⟨v0.heap.size, 0, none⟩) 1 1, .pointer none] : Array Value).size = 2 from rfl)
 exact bodyPost_ret (v := .agg #[.slice (some ⟨v0.heap.size, 0, none⟩) 1 1, .pointer none]) (by simp [results, Tryz.results57, go_sem]; rw [hL0]; rfl) rfl ⟨_, rfl, ah OF (by omega), BF⟩
attribute [-go_sem] loadCells storeCells in
set_option maxRecDepth 100000 in
set_option maxHeartbeats 16000000 in
theorem bP (ob : Nat) (w : World) :
 Calls Tryz.prog 61 #[.pointer (some ⟨ob, 0, none⟩)] w fun e w' => ∃ u, e = .returned (.agg #[u, .pointer none]) ∧ w'.ownsRow w.heap.size 113 1 u 1 (ptR [⟨ob, 3, none⟩]) ∧ Below w.heap.size w w' := by
 have B := Below.nw w (.cells #[.slice none 0 0, .pointer none] 50)
 have R := Bo.new w #[.slice none 0 0, .pointer none] 50
 go_enter Tryz.func61, Tryz.ntmps61
 go_upto_region 1 with fail
 generalize w.alloc (.cells #[.slice none 0 0, .pointer none] 50) = v0 at *
 have HQ0 : ∀ (u : World), Below v0.heap.size v0 u → w.heap.size + 1 ≤ u.heap.size := fun u h => Nat.le_trans R.1 h.size
 have XB : Below v0.heap.size v0 v0 := Below.refl _ _
 have O : (v0.alloc (.cells #[.pointer (some ⟨ob, 3, none⟩)] 113)).ownsRow v0.heap.size 113 1 (.slice (some ⟨v0.heap.size, 0, none⟩) 1 1) 1 (ptR [⟨ob, 3, none⟩]) := bW v0 [⟨ob, 3, none⟩] (by show (1 : Nat) ≤ 64; omega)
 have hqw : w.heap.size + 1 ≤ v0.heap.size := HQ0 v0 XB
 have XB7 : Below v0.heap.size v0 (v0.alloc (.cells #[.pointer (some ⟨ob, 3, none⟩)] 113)) := Below.nw v0 _
 have hz7 : v0.heap.size < (v0.alloc (.cells #[.pointer (some ⟨ob, 3, none⟩)] 113)).heap.size := by simp
 replace XB := XB.trans (XB7.mono XB.size)
 clear XB7
 have hst : (storeCells ⟨w.heap.size, 0, none⟩ [.slice (some ⟨v0.heap.size, 0, none⟩) 1 1, .pointer none] 0).run Tryz.prog (v0.alloc (.cells #[.pointer (some ⟨ob, 3, none⟩)] 113)) = .ok () (ac (v0.alloc (.cells #[.pointer (some ⟨ob, 3, none⟩)] 113)) w.heap.size 0 [.slice (some ⟨v0.heap.size, 0, none⟩) 1 1, .pointer none]) := Bo.store (P := Tryz.prog) (b := 0) [.slice (some ⟨v0.heap.size, 0, none⟩) 1 1, .pointer none] 0 0 (R.below XB) rfl (show 0 + 2 ≤ 2 by decide) (List.forall_mem_cons.2 ⟨rfl, (List.forall_mem_cons.2 ⟨rfl, fun _ h => nomatch h⟩)⟩)
 have R1 : Bo (ac (v0.alloc (.cells #[.pointer (some ⟨ob, 3, none⟩)] 113)) w.heap.size 0 [.slice (some ⟨v0.heap.size, 0, none⟩) 1 1, .pointer none]) w.heap.size #[.slice (some ⟨v0.heap.size, 0, none⟩) 1 1, .pointer none] := Bo.put [.slice (some ⟨v0.heap.size, 0, none⟩) 1 1, .pointer none] 0 (R.below XB)
 have hb : But w.heap.size (v0.alloc (.cells #[.pointer (some ⟨ob, 3, none⟩)] 113)) (ac (v0.alloc (.cells #[.pointer (some ⟨ob, 3, none⟩)] 113)) w.heap.size 0 [.slice (some ⟨v0.heap.size, 0, none⟩) 1 1, .pointer none]) := ak [.slice (some ⟨v0.heap.size, 0, none⟩) 1 1, .pointer none] (v0.alloc (.cells #[.pointer (some ⟨ob, 3, none⟩)] 113)) (v0.alloc (.cells #[.pointer (some ⟨ob, 3, none⟩)] 113)) 0 (But.refl _ _)
 have BF := ai (k := w.heap.size) [.slice (some ⟨v0.heap.size, 0, none⟩) 1 1, .pointer none] w (v0.alloc (.cells #[.pointer (some ⟨ob, 3, none⟩)] 113)) 0 (B.trans (XB.mono B.size)) (Nat.le_refl _)
 go_wp2_with (rw [hst])
 have OF := bJ O hb hqw
 have hL0 := R1.load (P := Tryz.prog) (show (#[.slice (some ⟨v0.heap.size, 0, none⟩) 1 1, .pointer none] : Array Value).size = 2 from rfl)
 exact bodyPost_ret (v := .agg #[.slice (some ⟨v0.heap.size, 0, none⟩) 1 1, .pointer none]) (by simp [results, Tryz.results61, go_sem]; rw [hL0]; rfl) rfl ⟨_, rfl, ah OF (by omega), BF⟩
attribute [-go_sem] loadCells storeCells in
set_option maxRecDepth 100000 in
set_option maxHeartbeats 16000000 in
theorem eX (ob : Nat) (w : World) :
 Calls Tryz.prog 58 #[.pointer (some ⟨ob, 0, none⟩)] w fun e w' => ∃ u, e = .returned (.agg #[u, .pointer none]) ∧ w'.ownsRow w.heap.size 113 1 u 3 (ptR [⟨ob, 1, none⟩, ⟨ob, 3, none⟩, ⟨ob, 4, none⟩]) ∧ Below w.heap.size w w' := by
 have B := Below.nw w (.cells #[.slice none 0 0, .pointer none] 50)
 have R := Bo.new w #[.slice none 0 0, .pointer none] 50
 go_enter Tryz.func58, Tryz.ntmps58
 go_upto_region 1 with fail
 generalize w.alloc (.cells #[.slice none 0 0, .pointer none] 50) = v0 at *
 have HQ0 : ∀ (u : World), Below v0.heap.size v0 u → w.heap.size + 1 ≤ u.heap.size := fun u h => Nat.le_trans R.1 h.size
 refine wp_region_held_drew (S := (fun _ => True)) (by kernel_rfl) ?_ (fun hHeld => ?_)
 ·trivial
 have XB : Below v0.heap.size v0 v0.drew := Below.drew (Below.refl _ _)
 generalize v0.drew = vx at *
 refine zT8 0 ?_
 refine zTk 8 ?_
 refine zQ 9 fun K hK => ?_
 go_simp
 (have O : (vx.alloc (.cells #[.pointer (some ⟨ob, 1, none⟩), .pointer (some ⟨ob, 3, none⟩), .pointer (some ⟨ob, 4, none⟩)] 113)).ownsRow vx.heap.size 113 1 (.slice (some ⟨vx.heap.size, 0, none⟩) 3 3) 3 (ptR [⟨ob, 1, none⟩, ⟨ob, 3, none⟩, ⟨ob, 4, none⟩]) := bW vx [⟨ob, 1, none⟩, ⟨ob, 3, none⟩, ⟨ob, 4, none⟩] (by show (3 : Nat) ≤ 64; omega)); (have hqw : w.heap.size + 1 ≤ vx.heap.size := HQ0 vx XB); (have XB7 : Below vx.heap.size vx (vx.alloc (.cells #[.pointer (some ⟨ob, 1, none⟩), .pointer (some ⟨ob, 3, none⟩), .pointer (some ⟨ob, 4, none⟩)] 113)) := Below.nw vx _); (have hz7 : vx.heap.size < (vx.alloc (.cells #[.pointer (some ⟨ob, 1, none⟩), .pointer (some ⟨ob, 3, none⟩), .pointer (some ⟨ob, 4, none⟩)] 113)).heap.size := by simp); (replace XB := XB.trans (XB7.mono XB.size)); (clear XB7); (generalize (vx.alloc (.cells #[.pointer (some ⟨ob, 1, none⟩), .pointer (some ⟨ob, 3, none⟩), .pointer (some ⟨ob, 4, none⟩)] 113)) = vy at *); (generalize vx.heap.size = q at *); (have hst : (storeCells ⟨w.heap.size, 0, none⟩ [.slice (some ⟨q, 0, none⟩) 3 3, .pointer none] 0).run Tryz.prog vy = .ok () (ac vy w.heap.size 0 [.slice (some ⟨q, 0, none⟩) 3 3, .pointer none]) := Bo.store (P := Tryz.prog) (b := 0) [.slice (some ⟨q, 0, none⟩) 3 3, .pointer none] 0 0 (R.below XB) rfl (show 0 + 2 ≤ 2 by decide) (List.forall_mem_cons.2 ⟨rfl, (List.forall_mem_cons.2 ⟨rfl, fun _ h => nomatch h⟩)⟩)); (have R1 : Bo (ac vy w.heap.size 0 [.slice (some ⟨q, 0, none⟩) 3 3, .pointer none]) w.heap.size #[.slice (some ⟨q, 0, none⟩) 3 3, .pointer none] := Bo.put [.slice (some ⟨q, 0, none⟩) 3 3, .pointer none] 0 (R.below XB)); (have hb : But w.heap.size vy (ac vy w.heap.size 0 [.slice (some ⟨q, 0, none⟩) 3 3, .pointer none]) := ak [.slice (some ⟨q, 0, none⟩) 3 3, .pointer none] vy vy 0 (But.refl _ _)); (have BF := ai (k := w.heap.size) [.slice (some ⟨q, 0, none⟩) 3 3, .pointer none] w vy 0 (B.trans (XB.mono B.size)) (Nat.le_refl _)); (generalize ac vy w.heap.size 0 [.slice (some ⟨q, 0, none⟩) 3 3, .pointer none] = vf at *)
 refine hK.out _ _ ?_ (fun hHeld => ?_)
 ·trivial
 clear hK K
 (try simp only [zA])
 refine zTk 10 ?_
 refine zQ 11 fun K hK => ?_
 go_simp
 refine hK.out _ _ ?_ (fun hHeld => ?_)
 ·trivial
 clear hK K
 (try simp only [zA])
 refine wpAnyH_done (by kernel_rfl) ?_ _
 clear hst
 go_wp2_with fail
 have OF := bJ O hb hqw
 have hL0 := R1.load (P := Tryz.prog) (show (#[.slice (some ⟨q, 0, none⟩) 3 3, .pointer none] : Array Value).size = 2 from rfl)
 exact bodyPost_ret (v := .agg #[.slice (some ⟨q, 0, none⟩) 3 3, .pointer none]) (by simp [results, Tryz.results58, go_sem]; rw [hL0]; rfl) rfl ⟨_, rfl, ah OF (by omega), BF⟩
attribute [-go_sem] loadCells storeCells in
set_option maxRecDepth 100000 in
set_option maxHeartbeats 16000000 in
theorem eW (ob : Nat) (w : World) :
 Calls Tryz.prog 59 #[.pointer (some ⟨ob, 0, none⟩)] w fun e w' => ∃ u, e = .returned (.agg #[u, .pointer none]) ∧ w'.ownsRow w.heap.size 113 1 u 2 (ptR [⟨ob, 1, none⟩, ⟨ob, 2, none⟩]) ∧ Below w.heap.size w w' := by
 have B := Below.nw w (.cells #[.slice none 0 0, .pointer none] 50)
 have R := Bo.new w #[.slice none 0 0, .pointer none] 50
 go_enter Tryz.func59, Tryz.ntmps59
 go_upto_region 1 with fail
 generalize w.alloc (.cells #[.slice none 0 0, .pointer none] 50) = v0 at *
 have HQ0 : ∀ (u : World), Below v0.heap.size v0 u → w.heap.size + 1 ≤ u.heap.size := fun u h => Nat.le_trans R.1 h.size
 refine wp_region_held_drew (S := (fun _ => True)) (by kernel_rfl) ?_ (fun hHeld => ?_)
 ·trivial
 have XB : Below v0.heap.size v0 v0.drew := Below.drew (Below.refl _ _)
 generalize v0.drew = vx at *
 refine zT4 0 ?_
 refine zT2 4 ?_
 refine zQ 6 fun K hK => ?_
 go_simp
 (have O : (vx.alloc (.cells #[.pointer (some ⟨ob, 1, none⟩), .pointer (some ⟨ob, 2, none⟩)] 113)).ownsRow vx.heap.size 113 1 (.slice (some ⟨vx.heap.size, 0, none⟩) 2 2) 2 (ptR [⟨ob, 1, none⟩, ⟨ob, 2, none⟩]) := bW vx [⟨ob, 1, none⟩, ⟨ob, 2, none⟩] (by show (2 : Nat) ≤ 64; omega)); (have hqw : w.heap.size + 1 ≤ vx.heap.size := HQ0 vx XB); (have XB7 : Below vx.heap.size vx (vx.alloc (.cells #[.pointer (some ⟨ob, 1, none⟩), .pointer (some ⟨ob, 2, none⟩)] 113)) := Below.nw vx _); (have hz7 : vx.heap.size < (vx.alloc (.cells #[.pointer (some ⟨ob, 1, none⟩), .pointer (some ⟨ob, 2, none⟩)] 113)).heap.size := by simp); (replace XB := XB.trans (XB7.mono XB.size)); (clear XB7); (generalize (vx.alloc (.cells #[.pointer (some ⟨ob, 1, none⟩), .pointer (some ⟨ob, 2, none⟩)] 113)) = vy at *); (generalize vx.heap.size = q at *); (have hst : (storeCells ⟨w.heap.size, 0, none⟩ [.slice (some ⟨q, 0, none⟩) 2 2, .pointer none] 0).run Tryz.prog vy = .ok () (ac vy w.heap.size 0 [.slice (some ⟨q, 0, none⟩) 2 2, .pointer none]) := Bo.store (P := Tryz.prog) (b := 0) [.slice (some ⟨q, 0, none⟩) 2 2, .pointer none] 0 0 (R.below XB) rfl (show 0 + 2 ≤ 2 by decide) (List.forall_mem_cons.2 ⟨rfl, (List.forall_mem_cons.2 ⟨rfl, fun _ h => nomatch h⟩)⟩)); (have R1 : Bo (ac vy w.heap.size 0 [.slice (some ⟨q, 0, none⟩) 2 2, .pointer none]) w.heap.size #[.slice (some ⟨q, 0, none⟩) 2 2, .pointer none] := Bo.put [.slice (some ⟨q, 0, none⟩) 2 2, .pointer none] 0 (R.below XB)); (have hb : But w.heap.size vy (ac vy w.heap.size 0 [.slice (some ⟨q, 0, none⟩) 2 2, .pointer none]) := ak [.slice (some ⟨q, 0, none⟩) 2 2, .pointer none] vy vy 0 (But.refl _ _)); (have BF := ai (k := w.heap.size) [.slice (some ⟨q, 0, none⟩) 2 2, .pointer none] w vy 0 (B.trans (XB.mono B.size)) (Nat.le_refl _)); (generalize ac vy w.heap.size 0 [.slice (some ⟨q, 0, none⟩) 2 2, .pointer none] = vf at *)
 refine hK.out _ _ ?_ (fun hHeld => ?_)
 ·trivial
 clear hK K
 (try simp only [zA])
 refine zTk 7 ?_
 refine zQ 8 fun K hK => ?_
 go_simp
 refine hK.out _ _ ?_ (fun hHeld => ?_)
 ·trivial
 clear hK K
 (try simp only [zA])
 refine wpAnyH_done (by kernel_rfl) ?_ _
 clear hst
 go_wp2_with fail
 have OF := bJ O hb hqw
 have hL0 := R1.load (P := Tryz.prog) (show (#[.slice (some ⟨q, 0, none⟩) 2 2, .pointer none] : Array Value).size = 2 from rfl)
 exact bodyPost_ret (v := .agg #[.slice (some ⟨q, 0, none⟩) 2 2, .pointer none]) (by simp [results, Tryz.results59, go_sem]; rw [hL0]; rfl) rfl ⟨_, rfl, ah OF (by omega), BF⟩
attribute [-go_sem] loadCells storeCells in
set_option maxRecDepth 100000 in
set_option maxHeartbeats 16000000 in
theorem eJ (ob : Nat) (w : World) :
 Calls Tryz.prog 60 #[.pointer (some ⟨ob, 0, none⟩)] w fun e w' => ∃ u, e = .returned (.agg #[u, .pointer (some ⟨ob, 5, none⟩)]) ∧ w'.ownsRow w.heap.size 113 1 u 2 (ptR [⟨ob, 1, none⟩, ⟨ob, 3, none⟩]) ∧ Below w.heap.size w w' := by
 have B := Below.nw w (.cells #[.slice none 0 0, .pointer none] 50)
 have R := Bo.new w #[.slice none 0 0, .pointer none] 50
 go_enter Tryz.func60, Tryz.ntmps60
 go_upto_region 1 with fail
 generalize w.alloc (.cells #[.slice none 0 0, .pointer none] 50) = v0 at *
 have HQ0 : ∀ (u : World), Below v0.heap.size v0 u → w.heap.size + 1 ≤ u.heap.size := fun u h => Nat.le_trans R.1 h.size
 refine wp_region_held_drew (S := (fun _ => True)) (by kernel_rfl) ?_ (fun hHeld => ?_)
 ·trivial
 have XB : Below v0.heap.size v0 v0.drew := Below.drew (Below.refl _ _)
 generalize v0.drew = vx at *
 refine zT4 0 ?_
 refine zT2 4 ?_
 refine zT2 7 ?_
 refine zTk 9 ?_
 refine zQ 6 fun K hK => ?_
 go_simp
 (have O : (vx.alloc (.cells #[.pointer (some ⟨ob, 1, none⟩), .pointer (some ⟨ob, 3, none⟩)] 113)).ownsRow vx.heap.size 113 1 (.slice (some ⟨vx.heap.size, 0, none⟩) 2 2) 2 (ptR [⟨ob, 1, none⟩, ⟨ob, 3, none⟩]) := bW vx [⟨ob, 1, none⟩, ⟨ob, 3, none⟩] (by show (2 : Nat) ≤ 64; omega)); (have hqw : w.heap.size + 1 ≤ vx.heap.size := HQ0 vx XB); (have XB7 : Below vx.heap.size vx (vx.alloc (.cells #[.pointer (some ⟨ob, 1, none⟩), .pointer (some ⟨ob, 3, none⟩)] 113)) := Below.nw vx _); (have hz7 : vx.heap.size < (vx.alloc (.cells #[.pointer (some ⟨ob, 1, none⟩), .pointer (some ⟨ob, 3, none⟩)] 113)).heap.size := by simp); (replace XB := XB.trans (XB7.mono XB.size)); (clear XB7); (generalize (vx.alloc (.cells #[.pointer (some ⟨ob, 1, none⟩), .pointer (some ⟨ob, 3, none⟩)] 113)) = vy at *); (generalize vx.heap.size = q at *); (have hst : (storeCells ⟨w.heap.size, 0, none⟩ [.slice (some ⟨q, 0, none⟩) 2 2, .pointer (some ⟨ob, 5, none⟩)] 0).run Tryz.prog vy = .ok () (ac vy w.heap.size 0 [.slice (some ⟨q, 0, none⟩) 2 2, .pointer (some ⟨ob, 5, none⟩)]) := Bo.store (P := Tryz.prog) (b := 0) [.slice (some ⟨q, 0, none⟩) 2 2, .pointer (some ⟨ob, 5, none⟩)] 0 0 (R.below XB) rfl (show 0 + 2 ≤ 2 by decide) (List.forall_mem_cons.2 ⟨rfl, (List.forall_mem_cons.2 ⟨rfl, fun _ h => nomatch h⟩)⟩)); (have R1 : Bo (ac vy w.heap.size 0 [.slice (some ⟨q, 0, none⟩) 2 2, .pointer (some ⟨ob, 5, none⟩)]) w.heap.size #[.slice (some ⟨q, 0, none⟩) 2 2, .pointer (some ⟨ob, 5, none⟩)] := Bo.put [.slice (some ⟨q, 0, none⟩) 2 2, .pointer (some ⟨ob, 5, none⟩)] 0 (R.below XB)); (have hb : But w.heap.size vy (ac vy w.heap.size 0 [.slice (some ⟨q, 0, none⟩) 2 2, .pointer (some ⟨ob, 5, none⟩)]) := ak [.slice (some ⟨q, 0, none⟩) 2 2, .pointer (some ⟨ob, 5, none⟩)] vy vy 0 (But.refl _ _)); (have BF := ai (k := w.heap.size) [.slice (some ⟨q, 0, none⟩) 2 2, .pointer (some ⟨ob, 5, none⟩)] w vy 0 (B.trans (XB.mono B.size)) (Nat.le_refl _)); (generalize ac vy w.heap.size 0 [.slice (some ⟨q, 0, none⟩) 2 2, .pointer (some ⟨ob, 5, none⟩)] = vf at *)
 refine hK.out _ _ ?_ (fun hHeld => ?_)
 ·trivial
 clear hK K
 (try simp only [zA])
 refine zTk 10 ?_
 refine zQ 11 fun K hK => ?_
 go_simp
 refine hK.out _ _ ?_ (fun hHeld => ?_)
 ·trivial
 clear hK K
 (try simp only [zA])
 refine wpAnyH_done (by kernel_rfl) ?_ _
 clear hst
 go_wp2_with fail
 have OF := bJ O hb hqw
 have hL0 := R1.load (P := Tryz.prog) (show (#[.slice (some ⟨q, 0, none⟩) 2 2, .pointer (some ⟨ob, 5, none⟩)] : Array Value).size = 2 from rfl)
 exact bodyPost_ret (v := .agg #[.slice (some ⟨q, 0, none⟩) 2 2, .pointer (some ⟨ob, 5, none⟩)]) (by simp [results, Tryz.results60, go_sem]; rw [hL0]; rfl) rfl ⟨_, rfl, ah OF (by omega), BF⟩
attribute [-go_sem] loadCells storeCells in
set_option maxRecDepth 100000 in
set_option maxHeartbeats 16000000 in
theorem ex (ob : Nat) (w : World) :
 Calls Tryz.prog 62 #[.pointer (some ⟨ob, 0, none⟩)] w fun e w' => ∃ u, e = .returned (.agg #[u, .pointer none]) ∧ w'.ownsRow w.heap.size 113 1 u 2 (ptR [⟨ob, 3, none⟩, ⟨ob, 4, none⟩]) ∧ Below w.heap.size w w' := by
 have B := Below.nw w (.cells #[.slice none 0 0, .pointer none] 50)
 have R := Bo.new w #[.slice none 0 0, .pointer none] 50
 go_enter Tryz.func62, Tryz.ntmps62
 go_upto_region 1 with fail
 generalize w.alloc (.cells #[.slice none 0 0, .pointer none] 50) = v0 at *
 have HQ0 : ∀ (u : World), Below v0.heap.size v0 u → w.heap.size + 1 ≤ u.heap.size := fun u h => Nat.le_trans R.1 h.size
 refine wp_region_held_drew (S := (fun _ => True)) (by kernel_rfl) ?_ (fun hHeld => ?_)
 ·trivial
 have XB : Below v0.heap.size v0 v0.drew := Below.drew (Below.refl _ _)
 generalize v0.drew = vx at *
 refine zT4 0 ?_
 refine zT2 4 ?_
 refine zQ 6 fun K hK => ?_
 go_simp
 (have O : (vx.alloc (.cells #[.pointer (some ⟨ob, 3, none⟩), .pointer (some ⟨ob, 4, none⟩)] 113)).ownsRow vx.heap.size 113 1 (.slice (some ⟨vx.heap.size, 0, none⟩) 2 2) 2 (ptR [⟨ob, 3, none⟩, ⟨ob, 4, none⟩]) := bW vx [⟨ob, 3, none⟩, ⟨ob, 4, none⟩] (by show (2 : Nat) ≤ 64; omega)); (have hqw : w.heap.size + 1 ≤ vx.heap.size := HQ0 vx XB); (have XB7 : Below vx.heap.size vx (vx.alloc (.cells #[.pointer (some ⟨ob, 3, none⟩), .pointer (some ⟨ob, 4, none⟩)] 113)) := Below.nw vx _); (have hz7 : vx.heap.size < (vx.alloc (.cells #[.pointer (some ⟨ob, 3, none⟩), .pointer (some ⟨ob, 4, none⟩)] 113)).heap.size := by simp); (replace XB := XB.trans (XB7.mono XB.size)); (clear XB7); (generalize (vx.alloc (.cells #[.pointer (some ⟨ob, 3, none⟩), .pointer (some ⟨ob, 4, none⟩)] 113)) = vy at *); (generalize vx.heap.size = q at *); (have hst : (storeCells ⟨w.heap.size, 0, none⟩ [.slice (some ⟨q, 0, none⟩) 2 2, .pointer none] 0).run Tryz.prog vy = .ok () (ac vy w.heap.size 0 [.slice (some ⟨q, 0, none⟩) 2 2, .pointer none]) := Bo.store (P := Tryz.prog) (b := 0) [.slice (some ⟨q, 0, none⟩) 2 2, .pointer none] 0 0 (R.below XB) rfl (show 0 + 2 ≤ 2 by decide) (List.forall_mem_cons.2 ⟨rfl, (List.forall_mem_cons.2 ⟨rfl, fun _ h => nomatch h⟩)⟩)); (have R1 : Bo (ac vy w.heap.size 0 [.slice (some ⟨q, 0, none⟩) 2 2, .pointer none]) w.heap.size #[.slice (some ⟨q, 0, none⟩) 2 2, .pointer none] := Bo.put [.slice (some ⟨q, 0, none⟩) 2 2, .pointer none] 0 (R.below XB)); (have hb : But w.heap.size vy (ac vy w.heap.size 0 [.slice (some ⟨q, 0, none⟩) 2 2, .pointer none]) := ak [.slice (some ⟨q, 0, none⟩) 2 2, .pointer none] vy vy 0 (But.refl _ _)); (have BF := ai (k := w.heap.size) [.slice (some ⟨q, 0, none⟩) 2 2, .pointer none] w vy 0 (B.trans (XB.mono B.size)) (Nat.le_refl _)); (generalize ac vy w.heap.size 0 [.slice (some ⟨q, 0, none⟩) 2 2, .pointer none] = vf at *)
 refine hK.out _ _ ?_ (fun hHeld => ?_)
 ·trivial
 clear hK K
 (try simp only [zA])
 refine zTk 7 ?_
 refine zQ 8 fun K hK => ?_
 go_simp
 refine hK.out _ _ ?_ (fun hHeld => ?_)
 ·trivial
 clear hK K
 (try simp only [zA])
 refine wpAnyH_done (by kernel_rfl) ?_ _
 clear hst
 go_wp2_with fail
 have OF := bJ O hb hqw
 have hL0 := R1.load (P := Tryz.prog) (show (#[.slice (some ⟨q, 0, none⟩) 2 2, .pointer none] : Array Value).size = 2 from rfl)
 exact bodyPost_ret (v := .agg #[.slice (some ⟨q, 0, none⟩) 2 2, .pointer none]) (by simp [results, Tryz.results62, go_sem]; rw [hL0]; rfl) rfl ⟨_, rfl, ah OF (by omega), BF⟩
attribute [-go_sem] loadCells storeCells in
set_option maxRecDepth 100000 in
set_option maxHeartbeats 16000000 in
theorem dT (ob : Nat) (w : World) :
 Calls Tryz.prog 63 #[.pointer (some ⟨ob, 0, none⟩)] w fun e w' => ∃ u, e = .returned (.agg #[u, .pointer (some ⟨ob, 5, none⟩)]) ∧ w'.ownsRow w.heap.size 113 1 u 2 (ptR [⟨ob, 1, none⟩, ⟨ob, 2, none⟩]) ∧ Below w.heap.size w w' := by
 have B := Below.nw w (.cells #[.slice none 0 0, .pointer none] 50)
 have R := Bo.new w #[.slice none 0 0, .pointer none] 50
 go_enter Tryz.func63, Tryz.ntmps63
 go_upto_region 1 with fail
 generalize w.alloc (.cells #[.slice none 0 0, .pointer none] 50) = v0 at *
 have HQ0 : ∀ (u : World), Below v0.heap.size v0 u → w.heap.size + 1 ≤ u.heap.size := fun u h => Nat.le_trans R.1 h.size
 refine wp_region_held_drew (S := (fun _ => True)) (by kernel_rfl) ?_ (fun hHeld => ?_)
 ·trivial
 have XB : Below v0.heap.size v0 v0.drew := Below.drew (Below.refl _ _)
 generalize v0.drew = vx at *
 refine zT4 0 ?_
 refine zT2 4 ?_
 refine zT2 7 ?_
 refine zTk 9 ?_
 refine zQ 6 fun K hK => ?_
 go_simp
 (have O : (vx.alloc (.cells #[.pointer (some ⟨ob, 1, none⟩), .pointer (some ⟨ob, 2, none⟩)] 113)).ownsRow vx.heap.size 113 1 (.slice (some ⟨vx.heap.size, 0, none⟩) 2 2) 2 (ptR [⟨ob, 1, none⟩, ⟨ob, 2, none⟩]) := bW vx [⟨ob, 1, none⟩, ⟨ob, 2, none⟩] (by show (2 : Nat) ≤ 64; omega)); (have hqw : w.heap.size + 1 ≤ vx.heap.size := HQ0 vx XB); (have XB7 : Below vx.heap.size vx (vx.alloc (.cells #[.pointer (some ⟨ob, 1, none⟩), .pointer (some ⟨ob, 2, none⟩)] 113)) := Below.nw vx _); (have hz7 : vx.heap.size < (vx.alloc (.cells #[.pointer (some ⟨ob, 1, none⟩), .pointer (some ⟨ob, 2, none⟩)] 113)).heap.size := by simp); (replace XB := XB.trans (XB7.mono XB.size)); (clear XB7); (generalize (vx.alloc (.cells #[.pointer (some ⟨ob, 1, none⟩), .pointer (some ⟨ob, 2, none⟩)] 113)) = vy at *); (generalize vx.heap.size = q at *); (have hst : (storeCells ⟨w.heap.size, 0, none⟩ [.slice (some ⟨q, 0, none⟩) 2 2, .pointer (some ⟨ob, 5, none⟩)] 0).run Tryz.prog vy = .ok () (ac vy w.heap.size 0 [.slice (some ⟨q, 0, none⟩) 2 2, .pointer (some ⟨ob, 5, none⟩)]) := Bo.store (P := Tryz.prog) (b := 0) [.slice (some ⟨q, 0, none⟩) 2 2, .pointer (some ⟨ob, 5, none⟩)] 0 0 (R.below XB) rfl (show 0 + 2 ≤ 2 by decide) (List.forall_mem_cons.2 ⟨rfl, (List.forall_mem_cons.2 ⟨rfl, fun _ h => nomatch h⟩)⟩)); (have R1 : Bo (ac vy w.heap.size 0 [.slice (some ⟨q, 0, none⟩) 2 2, .pointer (some ⟨ob, 5, none⟩)]) w.heap.size #[.slice (some ⟨q, 0, none⟩) 2 2, .pointer (some ⟨ob, 5, none⟩)] := Bo.put [.slice (some ⟨q, 0, none⟩) 2 2, .pointer (some ⟨ob, 5, none⟩)] 0 (R.below XB)); (have hb : But w.heap.size vy (ac vy w.heap.size 0 [.slice (some ⟨q, 0, none⟩) 2 2, .pointer (some ⟨ob, 5, none⟩)]) := ak [.slice (some ⟨q, 0, none⟩) 2 2, .pointer (some ⟨ob, 5, none⟩)] vy vy 0 (But.refl _ _)); (have BF := ai (k := w.heap.size) [.slice (some ⟨q, 0, none⟩) 2 2, .pointer (some ⟨ob, 5, none⟩)] w vy 0 (B.trans (XB.mono B.size)) (Nat.le_refl _)); (generalize ac vy w.heap.size 0 [.slice (some ⟨q, 0, none⟩) 2 2, .pointer (some ⟨ob, 5, none⟩)] = vf at *)
 refine hK.out _ _ ?_ (fun hHeld => ?_)
 ·trivial
 clear hK K
 (try simp only [zA])
 refine zTk 10 ?_
 refine zQ 11 fun K hK => ?_
 go_simp
 refine hK.out _ _ ?_ (fun hHeld => ?_)
 ·trivial
 clear hK K
 (try simp only [zA])
 refine wpAnyH_done (by kernel_rfl) ?_ _
 clear hst
 go_wp2_with fail
 have OF := bJ O hb hqw
 have hL0 := R1.load (P := Tryz.prog) (show (#[.slice (some ⟨q, 0, none⟩) 2 2, .pointer (some ⟨ob, 5, none⟩)] : Array Value).size = 2 from rfl)
 exact bodyPost_ret (v := .agg #[.slice (some ⟨q, 0, none⟩) 2 2, .pointer (some ⟨ob, 5, none⟩)]) (by simp [results, Tryz.results63, go_sem]; rw [hL0]; rfl) rfl ⟨_, rfl, ah OF (by omega), BF⟩
end Go.Proofs.YtddjiamollfplaaGreatDoor
