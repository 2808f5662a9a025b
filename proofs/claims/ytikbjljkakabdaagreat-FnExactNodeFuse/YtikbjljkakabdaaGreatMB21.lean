/- HeardNow in the specification. A node, copied (the specification). -/
import Derived.Test.YtikbjljkakabdaaGreatMB16
namespace Go.Proofs.YtikbjljkakabdaaGreat
open Go.RowKit
set_option linter.unusedVariables false
set_option maxRecDepth 100000
set_option maxHeartbeats 16000000
theorem aW {w : World} {base base' s n : Nat} {T : TypeId} {v : Value} {xs : List Value} (h : w.ownsRow base' T s v n xs) (hb : base ≤ base') : w.ownsRow base T s v n xs := by
 refine ⟨h.1, ?_⟩
 rcases h.2 with q | ⟨g, cap, cur, h1, h2, h3⟩
 ·exact .inl q
 ·exact .inr ⟨g, cap, cur, h1, Nat.le_trans hb h2, h3⟩
theorem mw : (Tryz.prog.info? 154).map (fun i => (i.zero, i.size, i.bytes)) = some (some (.agg #[.int .i64 0, .int .i64 0, .int .i64 0, .int .i64 0, .bool false]), 5, 40) := by kernel_rfl
theorem qD (M : Nat → PT) (n : Nat) : ∀ u ∈ (List.range (n * 5)).map (am M), u.oneCell' = true := by
 intro u hu
 rw [List.mem_map] at hu
 obtain ⟨j, _, rfl⟩ := hu
 have h : j % 5 = 0 ∨ j % 5 = 1 ∨ j % 5 = 2 ∨ j % 5 = 3 ∨ j % 5 = 4 := by omega
 unfold am
 rcases h with h | h | h | h | h <;> rw [h] <;> rfl
theorem fK {w : World} {ops : Array Oper} {rest : List Oper} {o : Oper} {a : Act} {Q : Exit → Act → World → Prop} (hgd : o.guard = none) (s x : Operand)
 (ho : o.op = .call { callee := .builtin .append, args := #[s, x], argTypes := #[53, 53] }) (base : Nat) (M : Nat → PT) (v : Value) (hs : a.eval s = v) (hown : w.ownsRow base 154 5 v ([] : List PT).length (bP []))
 (A : Option Addr) (n c : Nat) (hx : a.eval x = .slice A n c) (hA : (A = none ∧ n = 0 ∧ c = 0) ∨ ∃ b off, A = some ⟨b, off, none⟩ ∧ (n = 0 ∨ Cs w b off (n * 5) (am M))) (hL : n ≤ 4096) (hbase : base ≤ w.heap.size)
 (h : ∀ v' w', w'.ownsRow base 154 5 v' n ((List.range (n * 5)).map (am M)) → w.grownBy w' v.ownBlock → wpList Tryz.prog ops Q rest (a.put o.dst v') w') :
 wpList Tryz.prog ops Q (o :: rest) a w := by
 obtain ⟨i0, hi, hz0, hz1, hz2⟩ := info_parts mw
 rcases hA with ⟨rfl, rfl, rfl⟩ | ⟨b, off, rfl, hC⟩
 ·have hr := run_append_owned_none (P := Tryz.prog) (w := w) base 53 o.type 154 i0 5 Tryz.underlying53 hi v 0 (bP []) hown
  refine wpList_plain hgd fun _ hK => ?_
  unfold Oper.wp execOp
  simp only [ho, resolve, invoke, builtin, Sem.run_bind, Sem.run_pure, Result.andThen_ok, List.map_toArray, List.map_cons, List.map_nil, hs, hx, hr]
  exact hK _ _ (h v w hown ⟨rfl, rfl, rfl, Nat.le_refl _, fun _ _ _ => rfl⟩)
 ·have hcells : ∀ j u, ((List.range (n * 5)).map (am M))[j]? = some u → w.cell? ((⟨b, off, none⟩ : Addr).add j) = some u := by
   intro j u hu
   rw [List.getElem?_map] at hu
   by_cases hj : j < n * 5
   ·rw [List.getElem?_range hj] at hu
    simp at hu
    subst hu
    rcases hC with rfl | hC
    ·omega
    ·rw [dN]; exact hC.2 j hj
   ·rw [List.getElem?_eq_none (by rw [List.length_range]; omega)] at hu
    simp at hu
  refine bc hgd s x 53 ho base 154 i0 (.agg #[.int .i64 0, .int .i64 0, .int .i64 0, .int .i64 0, .bool false]) 5 40 Tryz.underlying53 hi hz0 hz1 hz2 rfl (by decide) v 0 (bP []) hs hown ⟨b, off, none⟩ n c ((List.range (n * 5)).map (am M)) hx (by simp) hcells (qD M n) (by unfold maxLen; omega) (by omega) hbase ?_
  intro v' w' h1 h2 _
  refine h v' w' ?_ h2
  rw [Nat.zero_add] at h1
  exact h1
theorem fX (w : World) : (w.alloc (.cells #[] 154)).ownsRow w.heap.size 154 5 (.slice (some ⟨w.heap.size, 0, none⟩) 0 0) ([] : List PT).length (bP []) := World.ownsRow_made w #[] 0 (Nat.le_refl _) (by simp [maxLen]) (by simp)
theorem iA {w : World} {base s n' : Nat} {T : TypeId} {v : Value} {xs : List Value} (h : w.ownsRow base T s v n' xs) : ∃ a c, v = .slice a n' c := by
 rcases h.2 with ⟨he, h0⟩ | ⟨g, cap, cur, he, _⟩
 ·exact ⟨none, 0, by rw [he, h0]⟩
 ·exact ⟨_, cap, he⟩
theorem ae {w : World} {base s n' g : Nat} {T : TypeId} {v : Value} {xs : List Value} (h : w.ownsRow base T s v n' xs) (hg : g < base) (o : Nat) (u : Value) : (w.setCell ⟨g, o, none⟩ u).ownsRow base T s v n' xs := by
 refine ⟨h.1, ?_⟩
 rcases h.2 with q | ⟨b, cap, cur, e, hb, hg', r⟩
 ·exact .inl q
 ·refine .inr ⟨b, cap, cur, e, hb, ?_, r⟩
  have hne : b ≠ (⟨g, o, none⟩ : Addr).block := by show b ≠ g; omega
  rw [Go.Deep.blk_setCell_other _ _ _ _ hne]
  exact hg'
theorem RwO.froms {w : World} {a : Option Addr} {n c : Nat} {M : Nat → KT} (h : RwO w a n c 4 (aA M)) : cN w a M n c := by
 rcases h with h | ⟨b, off, e, h⟩
 ·exact .inl h
 ·exact .inr ⟨_, e, h.imp id fun h => ⟨rfl, h⟩⟩
theorem ed (ni mo ep si : Int) (kn : Bool) (lo hi la te us : Int) (aa : Option Addr) (na ac : Nat) (AM : Nat → KT) (pa : Option Addr) (np pc : Nat) (QM : Nat → PT) (hs : Bool) (ls : Int) (ha : Option Addr) (nh hc : Nat) (HM : Nat → VT) (se : Int) (w : World) (hna : na ≤ 16) (rA : RwO w aa na ac 4 (aA AM)) (hnp : np ≤ 8) (rP : RwO w pa np pc 5 (am QM)) (hnh : nh ≤ 16) (rH : RwO w ha nh hc 2 (au HM)) :
 Calls Tryz.prog 27 #[.agg #[.int .i64 ni, .int .i64 mo, .int .i64 ep, .int .i64 si, .bool kn, .int .i64 lo, .int .i64 hi, .int .i64 la, .int .i64 te, .int .i64 us, .slice aa na ac, .slice pa np pc, .bool hs, .int .i64 ls, .slice ha nh hc, .int .i64 se]] w fun e w' => ∃ a1 c1 a2 c2 a3 c3, e = .returned (.agg #[.int .i64 ni, .int .i64 mo, .int .i64 ep, .int .i64 si, .bool kn, .int .i64 lo, .int .i64 hi, .int .i64 la, .int .i64 te, .int .i64 us, .slice a1 na c1, .slice a2 np c2, .bool hs, .int .i64 ls, .slice a3 nh c3, .int .i64 se]) ∧ (w'.ownsRow w.heap.size 88 4 (.slice a1 na c1) na (d5 AM na) ∧ w'.ownsRow w.heap.size 154 5 (.slice a2 np c2) np ((List.range (np * 5)).map (am QM)) ∧ w'.ownsRow w.heap.size 159 2 (.slice a3 nh c3) nh ((List.range (nh * 2)).map (au HM))) ∧ Below w.heap.size w w' := by
 have A0 := Below.nw w (.cells #[.int .i64 ni, .int .i64 mo, .int .i64 ep, .int .i64 si, .bool kn, .int .i64 lo, .int .i64 hi, .int .i64 la, .int .i64 te, .int .i64 us, .slice aa na ac, .slice pa np pc, .bool hs, .int .i64 ls, .slice ha nh hc, .int .i64 se] 57)
 have A1 := Below.nw (w.alloc (.cells #[.int .i64 ni, .int .i64 mo, .int .i64 ep, .int .i64 si, .bool kn, .int .i64 lo, .int .i64 hi, .int .i64 la, .int .i64 te, .int .i64 us, .slice aa na ac, .slice pa np pc, .bool hs, .int .i64 ls, .slice ha nh hc, .int .i64 se] 57)) (.cells #[.int .i64 0, .int .i64 0, .int .i64 0, .int .i64 0, .bool false, .int .i64 0, .int .i64 0, .int .i64 0, .int .i64 0, .int .i64 0, .slice none 0 0, .slice none 0 0, .bool false, .int .i64 0, .slice none 0 0, .int .i64 0] 57)
 have N := (aE.new w (.int .i64 ni) (.int .i64 mo) (.int .i64 ep) (.int .i64 si) (.bool kn) (.int .i64 lo) (.int .i64 hi) (.int .i64 la) (.int .i64 te) (.int .i64 us) (.slice aa na ac) (.slice pa np pc) (.bool hs) (.int .i64 ls) (.slice ha nh hc) (.int .i64 se) 57).below A1
 have R := aE.new (w.alloc (.cells #[.int .i64 ni, .int .i64 mo, .int .i64 ep, .int .i64 si, .bool kn, .int .i64 lo, .int .i64 hi, .int .i64 la, .int .i64 te, .int .i64 us, .slice aa na ac, .slice pa np pc, .bool hs, .int .i64 ls, .slice ha nh hc, .int .i64 se] 57)) (.int .i64 0) (.int .i64 0) (.int .i64 0) (.int .i64 0) (.bool false) (.int .i64 0) (.int .i64 0) (.int .i64 0) (.int .i64 0) (.int .i64 0) (.slice none 0 0) (.slice none 0 0) (.bool false) (.int .i64 0) (.slice none 0 0) (.int .i64 0) 57
 have B := A0.trans (A1.mono A0.size)
 have hj : w.heap.size + 2 ≤ ((w.alloc (.cells #[.int .i64 ni, .int .i64 mo, .int .i64 ep, .int .i64 si, .bool kn, .int .i64 lo, .int .i64 hi, .int .i64 la, .int .i64 te, .int .i64 us, .slice aa na ac, .slice pa np pc, .bool hs, .int .i64 ls, .slice ha nh hc, .int .i64 se] 57)).alloc (.cells #[.int .i64 0, .int .i64 0, .int .i64 0, .int .i64 0, .bool false, .int .i64 0, .int .i64 0, .int .i64 0, .int .i64 0, .int .i64 0, .slice none 0 0, .slice none 0 0, .bool false, .int .i64 0, .slice none 0 0, .int .i64 0] 57)).heap.size := by simp
 simp only [World.size_alloc] at R
 clear A0 A1
 have C1 := fun (w' : World) (h : Below w.heap.size w w') => mz te us aa na ac AM w' (by omega) (rA.below h).froms
 have HP : Hid (RwO w pa np pc 5 (am QM)) := rP
 have HH : Hid (RwO w ha nh hc 2 (au HM)) := rH
 clear rA rP rH
 go_enter Tryz.func27, Tryz.ntmps27
 go_upto_region 1 with fail
 generalize (w.alloc (.cells #[.int .i64 ni, .int .i64 mo, .int .i64 ep, .int .i64 si, .bool kn, .int .i64 lo, .int .i64 hi, .int .i64 la, .int .i64 te, .int .i64 us, .slice aa na ac, .slice pa np pc, .bool hs, .int .i64 ls, .slice ha nh hc, .int .i64 se] 57)).alloc (.cells #[.int .i64 0, .int .i64 0, .int .i64 0, .int .i64 0, .bool false, .int .i64 0, .int .i64 0, .int .i64 0, .int .i64 0, .int .i64 0, .slice none 0 0, .slice none 0 0, .bool false, .int .i64 0, .slice none 0 0, .int .i64 0] 57) = v at *
 have n0 : _ ∧ _ := N
 go_wp2_with fail
 refine (C1 _ B).mono ?_
 clear C1
 rintro e v1 ⟨a1, c1, rfl, OA, hb⟩
 clear n0
 replace OA := aW OA hj
 replace B := B.trans (hb.mono B.size)
 replace N := N.below hb
 replace R := R.below hb
 replace hj := Nat.le_trans hj hb.size
 clear hb
 have n0 : _ ∧ _ := N
 go_upto_region 2 with fail
 clear n0
 replace N := ((N.set8 (.int .i64 te)).set9 (.int .i64 us)).set10 (.slice a1 na c1)
 replace R := ((R.setO (j := w.heap.size) (by omega) 8 (.int .i64 te)).setO (j := w.heap.size) (by omega) 9 (.int .i64 us)).setO (j := w.heap.size) (by omega) 10 (.slice a1 na c1)
 replace OA := ae (ae (ae OA (show w.heap.size < w.heap.size + 2 by omega) 8 (.int .i64 te)) (show w.heap.size < w.heap.size + 2 by omega) 9 (.int .i64 us)) (show w.heap.size < w.heap.size + 2 by omega) 10 (.slice a1 na c1)
 replace B := ((B.setCell (p := ⟨w.heap.size, 8, none⟩) (Nat.le_refl _) (.int .i64 te)).setCell (p := ⟨w.heap.size, 9, none⟩) (Nat.le_refl _) (.int .i64 us)).setCell (p := ⟨w.heap.size, 10, none⟩) (Nat.le_refl _) (.slice a1 na c1)
 replace hj : w.heap.size + 2 ≤ (((v1.setCell ⟨w.heap.size, 8, none⟩ (.int .i64 te)).setCell ⟨w.heap.size, 9, none⟩ (.int .i64 us)).setCell ⟨w.heap.size, 10, none⟩ (.slice a1 na c1)).heap.size := by simpa using hj
 generalize ((v1.setCell ⟨w.heap.size, 8, none⟩ (.int .i64 te)).setCell ⟨w.heap.size, 9, none⟩ (.int .i64 us)).setCell ⟨w.heap.size, 10, none⟩ (.slice a1 na c1) = v2 at *
 have A2 := Below.nw v2 (.cells #[] 154)
 have OW := fX v2
 have hsz : v2.heap.size ≤ (v2.alloc (.cells #[] 154)).heap.size := A2.size
 have NA := N.below A2
 have n0 : _ ∧ _ := NA
 go_upto_region 3 with (at_builtin; refine fK rfl _ _ rfl v2.heap.size QM _ rfl OW _ np pc rfl ((HP.out.below B).below A2) (by omega) hsz ?_; intro v' w9 O9 hg9; (have BB := A2.trans (aJ OW hg9 hsz)); (obtain ⟨a2, c2, rfl⟩ := iA O9); (clear NA n0); (have N9 := N.below BB); (have n0 : _ ∧ _ := N9))
 clear n0
 replace OA := ae (aG OA BB) (show w.heap.size < w.heap.size + 2 by omega) 11 (.slice a2 np c2)
 have OP := ae (aW O9 hj) (show w.heap.size < w.heap.size + 2 by omega) 11 (.slice a2 np c2)
 replace N := N9.set11 (.slice a2 np c2)
 replace R := (R.below BB).setO (j := w.heap.size) (by omega) 11 (.slice a2 np c2)
 replace B := (B.trans (BB.mono B.size)).setCell (p := ⟨w.heap.size, 11, none⟩) (Nat.le_refl _) (.slice a2 np c2)
 replace hj : w.heap.size + 2 ≤ (w9.setCell ⟨w.heap.size, 11, none⟩ (.slice a2 np c2)).heap.size := by simpa using Nat.le_trans hj BB.size
 clear A2 OW hsz BB O9 hg9 N9 HP
 generalize w9.setCell ⟨w.heap.size, 11, none⟩ (.slice a2 np c2) = v3 at *
 have A2 := Below.nw v3 (.cells #[] 159)
 have OW := fW v3
 have hsz : v3.heap.size ≤ (v3.alloc (.cells #[] 159)).heap.size := A2.size
 have NA := N.below A2
 have n0 : _ ∧ _ := NA
 go_upto_region 4 with (at_builtin; refine eQ rfl _ _ rfl v3.heap.size HM _ rfl OW _ nh hc rfl ((HH.out.below B).below A2) (by omega) hsz ?_; intro v' w10 O9 hg9; (have BB := A2.trans (aJ OW hg9 hsz)); (obtain ⟨a3, c3, rfl⟩ := iA O9); (clear NA n0); (have N9 := N.below BB); (have n0 : _ ∧ _ := N9))
 clear n0
 replace OA := ae (aG OA BB) (show w.heap.size < w.heap.size + 2 by omega) 14 (.slice a3 nh c3)
 replace OP := ae (aG OP BB) (show w.heap.size < w.heap.size + 2 by omega) 14 (.slice a3 nh c3)
 have OH := ae (aW O9 hj) (show w.heap.size < w.heap.size + 2 by omega) 14 (.slice a3 nh c3)
 replace N := N9.set14 (.slice a3 nh c3)
 replace R := (R.below BB).setO (j := w.heap.size) (by omega) 14 (.slice a3 nh c3)
 replace B := (B.trans (BB.mono B.size)).setCell (p := ⟨w.heap.size, 14, none⟩) (Nat.le_refl _) (.slice a3 nh c3)
 clear A2 OW hsz BB O9 hg9 N9 HH hj
 generalize w10.setCell ⟨w.heap.size, 14, none⟩ (.slice a3 nh c3) = v6 at *
 have HOA : Hid ((((((((((((((((((v6).setCell ⟨w.heap.size + 1, 0, none⟩ (.int .i64 ni)).setCell ⟨w.heap.size + 1, 1, none⟩ (.int .i64 mo)).setCell ⟨w.heap.size + 1, 2, none⟩ (.int .i64 ep)).setCell ⟨w.heap.size + 1, 3, none⟩ (.int .i64 si)).setCell ⟨w.heap.size + 1, 4, none⟩ (.bool kn)).setCell ⟨w.heap.size + 1, 5, none⟩ (.int .i64 lo)).setCell ⟨w.heap.size + 1, 6, none⟩ (.int .i64 hi)).setCell ⟨w.heap.size + 1, 7, none⟩ (.int .i64 la)).setCell ⟨w.heap.size + 1, 8, none⟩ (.int .i64 te)).setCell ⟨w.heap.size + 1, 9, none⟩ (.int .i64 us)).setCell ⟨w.heap.size + 1, 10, none⟩ (.slice a1 na c1)).setCell ⟨w.heap.size + 1, 11, none⟩ (.slice a2 np c2)).setCell ⟨w.heap.size + 1, 12, none⟩ (.bool hs)).setCell ⟨w.heap.size + 1, 13, none⟩ (.int .i64 ls)).setCell ⟨w.heap.size + 1, 14, none⟩ (.slice a3 nh c3)).setCell ⟨w.heap.size + 1, 15, none⟩ (.int .i64 se)).ownsRow (w.heap.size + 2) 88 4 (.slice a1 na c1) na (d5 AM na)) := (ae (ae (ae (ae (ae (ae (ae (ae (ae (ae (ae (ae (ae (ae (ae (ae OA (show w.heap.size + 1 < w.heap.size + 2 by omega) 0 (.int .i64 ni)) (show w.heap.size + 1 < w.heap.size + 2 by omega) 1 (.int .i64 mo)) (show w.heap.size + 1 < w.heap.size + 2 by omega) 2 (.int .i64 ep)) (show w.heap.size + 1 < w.heap.size + 2 by omega) 3 (.int .i64 si)) (show w.heap.size + 1 < w.heap.size + 2 by omega) 4 (.bool kn)) (show w.heap.size + 1 < w.heap.size + 2 by omega) 5 (.int .i64 lo)) (show w.heap.size + 1 < w.heap.size + 2 by omega) 6 (.int .i64 hi)) (show w.heap.size + 1 < w.heap.size + 2 by omega) 7 (.int .i64 la)) (show w.heap.size + 1 < w.heap.size + 2 by omega) 8 (.int .i64 te)) (show w.heap.size + 1 < w.heap.size + 2 by omega) 9 (.int .i64 us)) (show w.heap.size + 1 < w.heap.size + 2 by omega) 10 (.slice a1 na c1)) (show w.heap.size + 1 < w.heap.size + 2 by omega) 11 (.slice a2 np c2)) (show w.heap.size + 1 < w.heap.size + 2 by omega) 12 (.bool hs)) (show w.heap.size + 1 < w.heap.size + 2 by omega) 13 (.int .i64 ls)) (show w.heap.size + 1 < w.heap.size + 2 by omega) 14 (.slice a3 nh c3)) (show w.heap.size + 1 < w.heap.size + 2 by omega) 15 (.int .i64 se))
 have HOP : Hid ((((((((((((((((((v6).setCell ⟨w.heap.size + 1, 0, none⟩ (.int .i64 ni)).setCell ⟨w.heap.size + 1, 1, none⟩ (.int .i64 mo)).setCell ⟨w.heap.size + 1, 2, none⟩ (.int .i64 ep)).setCell ⟨w.heap.size + 1, 3, none⟩ (.int .i64 si)).setCell ⟨w.heap.size + 1, 4, none⟩ (.bool kn)).setCell ⟨w.heap.size + 1, 5, none⟩ (.int .i64 lo)).setCell ⟨w.heap.size + 1, 6, none⟩ (.int .i64 hi)).setCell ⟨w.heap.size + 1, 7, none⟩ (.int .i64 la)).setCell ⟨w.heap.size + 1, 8, none⟩ (.int .i64 te)).setCell ⟨w.heap.size + 1, 9, none⟩ (.int .i64 us)).setCell ⟨w.heap.size + 1, 10, none⟩ (.slice a1 na c1)).setCell ⟨w.heap.size + 1, 11, none⟩ (.slice a2 np c2)).setCell ⟨w.heap.size + 1, 12, none⟩ (.bool hs)).setCell ⟨w.heap.size + 1, 13, none⟩ (.int .i64 ls)).setCell ⟨w.heap.size + 1, 14, none⟩ (.slice a3 nh c3)).setCell ⟨w.heap.size + 1, 15, none⟩ (.int .i64 se)).ownsRow (w.heap.size + 2) 154 5 (.slice a2 np c2) np ((List.range (np * 5)).map (am QM))) := (ae (ae (ae (ae (ae (ae (ae (ae (ae (ae (ae (ae (ae (ae (ae (ae OP (show w.heap.size + 1 < w.heap.size + 2 by omega) 0 (.int .i64 ni)) (show w.heap.size + 1 < w.heap.size + 2 by omega) 1 (.int .i64 mo)) (show w.heap.size + 1 < w.heap.size + 2 by omega) 2 (.int .i64 ep)) (show w.heap.size + 1 < w.heap.size + 2 by omega) 3 (.int .i64 si)) (show w.heap.size + 1 < w.heap.size + 2 by omega) 4 (.bool kn)) (show w.heap.size + 1 < w.heap.size + 2 by omega) 5 (.int .i64 lo)) (show w.heap.size + 1 < w.heap.size + 2 by omega) 6 (.int .i64 hi)) (show w.heap.size + 1 < w.heap.size + 2 by omega) 7 (.int .i64 la)) (show w.heap.size + 1 < w.heap.size + 2 by omega) 8 (.int .i64 te)) (show w.heap.size + 1 < w.heap.size + 2 by omega) 9 (.int .i64 us)) (show w.heap.size + 1 < w.heap.size + 2 by omega) 10 (.slice a1 na c1)) (show w.heap.size + 1 < w.heap.size + 2 by omega) 11 (.slice a2 np c2)) (show w.heap.size + 1 < w.heap.size + 2 by omega) 12 (.bool hs)) (show w.heap.size + 1 < w.heap.size + 2 by omega) 13 (.int .i64 ls)) (show w.heap.size + 1 < w.heap.size + 2 by omega) 14 (.slice a3 nh c3)) (show w.heap.size + 1 < w.heap.size + 2 by omega) 15 (.int .i64 se))
 have HOH : Hid ((((((((((((((((((v6).setCell ⟨w.heap.size + 1, 0, none⟩ (.int .i64 ni)).setCell ⟨w.heap.size + 1, 1, none⟩ (.int .i64 mo)).setCell ⟨w.heap.size + 1, 2, none⟩ (.int .i64 ep)).setCell ⟨w.heap.size + 1, 3, none⟩ (.int .i64 si)).setCell ⟨w.heap.size + 1, 4, none⟩ (.bool kn)).setCell ⟨w.heap.size + 1, 5, none⟩ (.int .i64 lo)).setCell ⟨w.heap.size + 1, 6, none⟩ (.int .i64 hi)).setCell ⟨w.heap.size + 1, 7, none⟩ (.int .i64 la)).setCell ⟨w.heap.size + 1, 8, none⟩ (.int .i64 te)).setCell ⟨w.heap.size + 1, 9, none⟩ (.int .i64 us)).setCell ⟨w.heap.size + 1, 10, none⟩ (.slice a1 na c1)).setCell ⟨w.heap.size + 1, 11, none⟩ (.slice a2 np c2)).setCell ⟨w.heap.size + 1, 12, none⟩ (.bool hs)).setCell ⟨w.heap.size + 1, 13, none⟩ (.int .i64 ls)).setCell ⟨w.heap.size + 1, 14, none⟩ (.slice a3 nh c3)).setCell ⟨w.heap.size + 1, 15, none⟩ (.int .i64 se)).ownsRow (w.heap.size + 2) 159 2 (.slice a3 nh c3) nh ((List.range (nh * 2)).map (au HM))) := (ae (ae (ae (ae (ae (ae (ae (ae (ae (ae (ae (ae (ae (ae (ae (ae OH (show w.heap.size + 1 < w.heap.size + 2 by omega) 0 (.int .i64 ni)) (show w.heap.size + 1 < w.heap.size + 2 by omega) 1 (.int .i64 mo)) (show w.heap.size + 1 < w.heap.size + 2 by omega) 2 (.int .i64 ep)) (show w.heap.size + 1 < w.heap.size + 2 by omega) 3 (.int .i64 si)) (show w.heap.size + 1 < w.heap.size + 2 by omega) 4 (.bool kn)) (show w.heap.size + 1 < w.heap.size + 2 by omega) 5 (.int .i64 lo)) (show w.heap.size + 1 < w.heap.size + 2 by omega) 6 (.int .i64 hi)) (show w.heap.size + 1 < w.heap.size + 2 by omega) 7 (.int .i64 la)) (show w.heap.size + 1 < w.heap.size + 2 by omega) 8 (.int .i64 te)) (show w.heap.size + 1 < w.heap.size + 2 by omega) 9 (.int .i64 us)) (show w.heap.size + 1 < w.heap.size + 2 by omega) 10 (.slice a1 na c1)) (show w.heap.size + 1 < w.heap.size + 2 by omega) 11 (.slice a2 np c2)) (show w.heap.size + 1 < w.heap.size + 2 by omega) 12 (.bool hs)) (show w.heap.size + 1 < w.heap.size + 2 by omega) 13 (.int .i64 ls)) (show w.heap.size + 1 < w.heap.size + 2 by omega) 14 (.slice a3 nh c3)) (show w.heap.size + 1 < w.heap.size + 2 by omega) 15 (.int .i64 se))
 have R1 := ((((((((((((((((R.set0 (.int .i64 ni)).set1 (.int .i64 mo)).set2 (.int .i64 ep)).set3 (.int .i64 si)).set4 (.bool kn)).set5 (.int .i64 lo)).set6 (.int .i64 hi)).set7 (.int .i64 la)).set8 (.int .i64 te)).set9 (.int .i64 us)).set10 (.slice a1 na c1)).set11 (.slice a2 np c2)).set12 (.bool hs)).set13 (.int .i64 ls)).set14 (.slice a3 nh c3)).set15 (.int .i64 se))
 have B1 := ((((((((((((((((B.setCell (p := ⟨w.heap.size + 1, 0, none⟩) (by simp) (.int .i64 ni)).setCell (p := ⟨w.heap.size + 1, 1, none⟩) (by simp) (.int .i64 mo)).setCell (p := ⟨w.heap.size + 1, 2, none⟩) (by simp) (.int .i64 ep)).setCell (p := ⟨w.heap.size + 1, 3, none⟩) (by simp) (.int .i64 si)).setCell (p := ⟨w.heap.size + 1, 4, none⟩) (by simp) (.bool kn)).setCell (p := ⟨w.heap.size + 1, 5, none⟩) (by simp) (.int .i64 lo)).setCell (p := ⟨w.heap.size + 1, 6, none⟩) (by simp) (.int .i64 hi)).setCell (p := ⟨w.heap.size + 1, 7, none⟩) (by simp) (.int .i64 la)).setCell (p := ⟨w.heap.size + 1, 8, none⟩) (by simp) (.int .i64 te)).setCell (p := ⟨w.heap.size + 1, 9, none⟩) (by simp) (.int .i64 us)).setCell (p := ⟨w.heap.size + 1, 10, none⟩) (by simp) (.slice a1 na c1)).setCell (p := ⟨w.heap.size + 1, 11, none⟩) (by simp) (.slice a2 np c2)).setCell (p := ⟨w.heap.size + 1, 12, none⟩) (by simp) (.bool hs)).setCell (p := ⟨w.heap.size + 1, 13, none⟩) (by simp) (.int .i64 ls)).setCell (p := ⟨w.heap.size + 1, 14, none⟩) (by simp) (.slice a3 nh c3)).setCell (p := ⟨w.heap.size + 1, 15, none⟩) (by simp) (.int .i64 se))
 clear OA OP OH
 have n0 : _ ∧ _ := N
 have p0 : _ ∧ _ := R
 go_wp2_with fail
 clear n0
 clear p0 R N B
 generalize ((((((((((((((((v6).setCell ⟨w.heap.size + 1, 0, none⟩ (.int .i64 ni)).setCell ⟨w.heap.size + 1, 1, none⟩ (.int .i64 mo)).setCell ⟨w.heap.size + 1, 2, none⟩ (.int .i64 ep)).setCell ⟨w.heap.size + 1, 3, none⟩ (.int .i64 si)).setCell ⟨w.heap.size + 1, 4, none⟩ (.bool kn)).setCell ⟨w.heap.size + 1, 5, none⟩ (.int .i64 lo)).setCell ⟨w.heap.size + 1, 6, none⟩ (.int .i64 hi)).setCell ⟨w.heap.size + 1, 7, none⟩ (.int .i64 la)).setCell ⟨w.heap.size + 1, 8, none⟩ (.int .i64 te)).setCell ⟨w.heap.size + 1, 9, none⟩ (.int .i64 us)).setCell ⟨w.heap.size + 1, 10, none⟩ (.slice a1 na c1)).setCell ⟨w.heap.size + 1, 11, none⟩ (.slice a2 np c2)).setCell ⟨w.heap.size + 1, 12, none⟩ (.bool hs)).setCell ⟨w.heap.size + 1, 13, none⟩ (.int .i64 ls)).setCell ⟨w.heap.size + 1, 14, none⟩ (.slice a3 nh c3)).setCell ⟨w.heap.size + 1, 15, none⟩ (.int .i64 se) = v7 at *
 have p0 : _ ∧ _ := R1
 exact bodyPost_ret (v := (.agg #[.int .i64 ni, .int .i64 mo, .int .i64 ep, .int .i64 si, .bool kn, .int .i64 lo, .int .i64 hi, .int .i64 la, .int .i64 te, .int .i64 us, .slice a1 na c1, .slice a2 np c2, .bool hs, .int .i64 ls, .slice a3 nh c3, .int .i64 se])) (by simp (maxDischargeDepth := 6) [results, Tryz.results27, go_sem, *]) rfl ⟨a1, c1, a2, c2, a3, c3, rfl, ⟨aW HOA.out (by omega), aW HOP.out (by omega), aW HOH.out (by omega)⟩, B1⟩
theorem js (ni mo ep si : Int) (kn : Bool) (lo hi la te us : Int) (aa : Option Addr) (na ac : Nat) (AM : Nat → KT) (pa : Option Addr) (np pc : Nat) (QM : Nat → PT) (hs : Bool) (ls : Int) (ha : Option Addr) (nh hc : Nat) (HM : Nat → VT) (se : Int) (w : World) :
 Calls Tryz.prog 26 #[.agg #[.int .i64 ni, .int .i64 mo, .int .i64 ep, .int .i64 si, .bool kn, .int .i64 lo, .int .i64 hi, .int .i64 la, .int .i64 te, .int .i64 us, .slice aa na ac, .slice pa np pc, .bool hs, .int .i64 ls, .slice ha nh hc, .int .i64 se], .int .i64 1] w fun e w' => e = .returned (.agg #[.int .i64 0, .int .i64 0, .int .i64 0, .int .i64 0, .bool false, .int .i64 0, .int .i64 0, .int .i64 0, .int .i64 0, .int .i64 0, .slice none 0 0, .slice none 0 0, .bool false, .int .i64 0, .slice none 0 0, .int .i64 0]) ∧ Below w.heap.size w w' := by
 have A0 := Below.nw w (.cells #[.int .i64 ni, .int .i64 mo, .int .i64 ep, .int .i64 si, .bool kn, .int .i64 lo, .int .i64 hi, .int .i64 la, .int .i64 te, .int .i64 us, .slice aa na ac, .slice pa np pc, .bool hs, .int .i64 ls, .slice ha nh hc, .int .i64 se] 57)
 have A1 := Below.nw (w.alloc (.cells #[.int .i64 ni, .int .i64 mo, .int .i64 ep, .int .i64 si, .bool kn, .int .i64 lo, .int .i64 hi, .int .i64 la, .int .i64 te, .int .i64 us, .slice aa na ac, .slice pa np pc, .bool hs, .int .i64 ls, .slice ha nh hc, .int .i64 se] 57)) (.cells #[.int .i64 0, .int .i64 0, .int .i64 0, .int .i64 0, .bool false, .int .i64 0, .int .i64 0, .int .i64 0, .int .i64 0, .int .i64 0, .slice none 0 0, .slice none 0 0, .bool false, .int .i64 0, .slice none 0 0, .int .i64 0] 57)
 have R := aE.new (w.alloc (.cells #[.int .i64 ni, .int .i64 mo, .int .i64 ep, .int .i64 si, .bool kn, .int .i64 lo, .int .i64 hi, .int .i64 la, .int .i64 te, .int .i64 us, .slice aa na ac, .slice pa np pc, .bool hs, .int .i64 ls, .slice ha nh hc, .int .i64 se] 57)) (.int .i64 0) (.int .i64 0) (.int .i64 0) (.int .i64 0) (.bool false) (.int .i64 0) (.int .i64 0) (.int .i64 0) (.int .i64 0) (.int .i64 0) (.slice none 0 0) (.slice none 0 0) (.bool false) (.int .i64 0) (.slice none 0 0) (.int .i64 0) 57
 have B := A0.trans (A1.mono A0.size)
 simp only [World.size_alloc] at R
 clear A0 A1
 go_enter Tryz.func26, Tryz.ntmps26
 go_wp2_with fail
 generalize (w.alloc (.cells #[.int .i64 ni, .int .i64 mo, .int .i64 ep, .int .i64 si, .bool kn, .int .i64 lo, .int .i64 hi, .int .i64 la, .int .i64 te, .int .i64 us, .slice aa na ac, .slice pa np pc, .bool hs, .int .i64 ls, .slice ha nh hc, .int .i64 se] 57)).alloc (.cells #[.int .i64 0, .int .i64 0, .int .i64 0, .int .i64 0, .bool false, .int .i64 0, .int .i64 0, .int .i64 0, .int .i64 0, .int .i64 0, .slice none 0 0, .slice none 0 0, .bool false, .int .i64 0, .slice none 0 0, .int .i64 0] 57) = v at *
 have p0 : _ ∧ _ := R
 exact bodyPost_ret (v := (.agg #[.int .i64 0, .int .i64 0, .int .i64 0, .int .i64 0, .bool false, .int .i64 0, .int .i64 0, .int .i64 0, .int .i64 0, .int .i64 0, .slice none 0 0, .slice none 0 0, .bool false, .int .i64 0, .slice none 0 0, .int .i64 0])) (by simp (maxDischargeDepth := 6) [results, Tryz.results26, go_sem, *]) rfl ⟨rfl, B⟩
theorem jr (ni mo ep si : Int) (kn : Bool) (lo hi la te us : Int) (aa : Option Addr) (na ac : Nat) (AM : Nat → KT) (pa : Option Addr) (np pc : Nat) (QM : Nat → PT) (hs : Bool) (ls : Int) (ha : Option Addr) (nh hc : Nat) (HM : Nat → VT) (se : Int) (cd : Int) (w : World) (hcd : cd ≠ 1) (hna : na ≤ 16) (rA : RwO w aa na ac 4 (aA AM)) (hnp : np ≤ 8) (rP : RwO w pa np pc 5 (am QM)) (hnh : nh ≤ 16) (rH : RwO w ha nh hc 2 (au HM)) :
 Calls Tryz.prog 26 #[.agg #[.int .i64 ni, .int .i64 mo, .int .i64 ep, .int .i64 si, .bool kn, .int .i64 lo, .int .i64 hi, .int .i64 la, .int .i64 te, .int .i64 us, .slice aa na ac, .slice pa np pc, .bool hs, .int .i64 ls, .slice ha nh hc, .int .i64 se], .int .i64 cd] w fun e w' => ∃ a1 c1 a2 c2 a3 c3, e = .returned (.agg #[.int .i64 ni, .int .i64 mo, .int .i64 ep, .int .i64 si, .bool kn, .int .i64 lo, .int .i64 hi, .int .i64 la, .int .i64 te, .int .i64 us, .slice a1 na c1, .slice a2 np c2, .bool hs, .int .i64 ls, .slice a3 nh c3, .int .i64 se]) ∧ (w'.ownsRow w.heap.size 88 4 (.slice a1 na c1) na (d5 AM na) ∧ w'.ownsRow w.heap.size 154 5 (.slice a2 np c2) np ((List.range (np * 5)).map (am QM)) ∧ w'.ownsRow w.heap.size 159 2 (.slice a3 nh c3) nh ((List.range (nh * 2)).map (au HM))) ∧ Below w.heap.size w w' := by
 have A0 := Below.nw w (.cells #[.int .i64 ni, .int .i64 mo, .int .i64 ep, .int .i64 si, .bool kn, .int .i64 lo, .int .i64 hi, .int .i64 la, .int .i64 te, .int .i64 us, .slice aa na ac, .slice pa np pc, .bool hs, .int .i64 ls, .slice ha nh hc, .int .i64 se] 57)
 have A1 := Below.nw (w.alloc (.cells #[.int .i64 ni, .int .i64 mo, .int .i64 ep, .int .i64 si, .bool kn, .int .i64 lo, .int .i64 hi, .int .i64 la, .int .i64 te, .int .i64 us, .slice aa na ac, .slice pa np pc, .bool hs, .int .i64 ls, .slice ha nh hc, .int .i64 se] 57)) (.cells #[.int .i64 0, .int .i64 0, .int .i64 0, .int .i64 0, .bool false, .int .i64 0, .int .i64 0, .int .i64 0, .int .i64 0, .int .i64 0, .slice none 0 0, .slice none 0 0, .bool false, .int .i64 0, .slice none 0 0, .int .i64 0] 57)
 have N := (aE.new w (.int .i64 ni) (.int .i64 mo) (.int .i64 ep) (.int .i64 si) (.bool kn) (.int .i64 lo) (.int .i64 hi) (.int .i64 la) (.int .i64 te) (.int .i64 us) (.slice aa na ac) (.slice pa np pc) (.bool hs) (.int .i64 ls) (.slice ha nh hc) (.int .i64 se) 57).below A1
 have R := aE.new (w.alloc (.cells #[.int .i64 ni, .int .i64 mo, .int .i64 ep, .int .i64 si, .bool kn, .int .i64 lo, .int .i64 hi, .int .i64 la, .int .i64 te, .int .i64 us, .slice aa na ac, .slice pa np pc, .bool hs, .int .i64 ls, .slice ha nh hc, .int .i64 se] 57)) (.int .i64 0) (.int .i64 0) (.int .i64 0) (.int .i64 0) (.bool false) (.int .i64 0) (.int .i64 0) (.int .i64 0) (.int .i64 0) (.int .i64 0) (.slice none 0 0) (.slice none 0 0) (.bool false) (.int .i64 0) (.slice none 0 0) (.int .i64 0) 57
 have B := A0.trans (A1.mono A0.size)
 have hj : w.heap.size + 2 ≤ ((w.alloc (.cells #[.int .i64 ni, .int .i64 mo, .int .i64 ep, .int .i64 si, .bool kn, .int .i64 lo, .int .i64 hi, .int .i64 la, .int .i64 te, .int .i64 us, .slice aa na ac, .slice pa np pc, .bool hs, .int .i64 ls, .slice ha nh hc, .int .i64 se] 57)).alloc (.cells #[.int .i64 0, .int .i64 0, .int .i64 0, .int .i64 0, .bool false, .int .i64 0, .int .i64 0, .int .i64 0, .int .i64 0, .int .i64 0, .slice none 0 0, .slice none 0 0, .bool false, .int .i64 0, .slice none 0 0, .int .i64 0] 57)).heap.size := by simp
 simp only [World.size_alloc] at R
 clear A0 A1
 have C1 := fun (w' : World) (h : Below w.heap.size w w') => ed ni mo ep si kn lo hi la te us aa na ac AM pa np pc QM hs ls ha nh hc HM se w' hna (rA.below h) hnp (rP.below h) hnh (rH.below h)
 have hq : (cd == 1) = false := by rw [beq_eq_false_iff_ne]; exact hcd
 clear rA rP rH hcd
 go_enter Tryz.func26, Tryz.ntmps26
 go_upto_region 1 with fail
 generalize (w.alloc (.cells #[.int .i64 ni, .int .i64 mo, .int .i64 ep, .int .i64 si, .bool kn, .int .i64 lo, .int .i64 hi, .int .i64 la, .int .i64 te, .int .i64 us, .slice aa na ac, .slice pa np pc, .bool hs, .int .i64 ls, .slice ha nh hc, .int .i64 se] 57)).alloc (.cells #[.int .i64 0, .int .i64 0, .int .i64 0, .int .i64 0, .bool false, .int .i64 0, .int .i64 0, .int .i64 0, .int .i64 0, .int .i64 0, .slice none 0 0, .slice none 0 0, .bool false, .int .i64 0, .slice none 0 0, .int .i64 0] 57) = v at *
 have n0 : _ ∧ _ := N
 go_wp2_with fail
 refine (C1 _ B).mono ?_
 clear C1
 rintro e v6 ⟨a1, c1, a2, c2, a3, c3, rfl, ⟨OA, OP, OH⟩, hb⟩
 clear n0
 replace OA := aW OA hj
 replace OP := aW OP hj
 replace OH := aW OH hj
 replace B := B.trans (hb.mono B.size)
 replace R := R.below hb
 clear hb N hj
 have HOA : Hid ((((((((((((((((((v6).setCell ⟨w.heap.size + 1, 0, none⟩ (.int .i64 ni)).setCell ⟨w.heap.size + 1, 1, none⟩ (.int .i64 mo)).setCell ⟨w.heap.size + 1, 2, none⟩ (.int .i64 ep)).setCell ⟨w.heap.size + 1, 3, none⟩ (.int .i64 si)).setCell ⟨w.heap.size + 1, 4, none⟩ (.bool kn)).setCell ⟨w.heap.size + 1, 5, none⟩ (.int .i64 lo)).setCell ⟨w.heap.size + 1, 6, none⟩ (.int .i64 hi)).setCell ⟨w.heap.size + 1, 7, none⟩ (.int .i64 la)).setCell ⟨w.heap.size + 1, 8, none⟩ (.int .i64 te)).setCell ⟨w.heap.size + 1, 9, none⟩ (.int .i64 us)).setCell ⟨w.heap.size + 1, 10, none⟩ (.slice a1 na c1)).setCell ⟨w.heap.size + 1, 11, none⟩ (.slice a2 np c2)).setCell ⟨w.heap.size + 1, 12, none⟩ (.bool hs)).setCell ⟨w.heap.size + 1, 13, none⟩ (.int .i64 ls)).setCell ⟨w.heap.size + 1, 14, none⟩ (.slice a3 nh c3)).setCell ⟨w.heap.size + 1, 15, none⟩ (.int .i64 se)).ownsRow (w.heap.size + 2) 88 4 (.slice a1 na c1) na (d5 AM na)) := (ae (ae (ae (ae (ae (ae (ae (ae (ae (ae (ae (ae (ae (ae (ae (ae OA (show w.heap.size + 1 < w.heap.size + 2 by omega) 0 (.int .i64 ni)) (show w.heap.size + 1 < w.heap.size + 2 by omega) 1 (.int .i64 mo)) (show w.heap.size + 1 < w.heap.size + 2 by omega) 2 (.int .i64 ep)) (show w.heap.size + 1 < w.heap.size + 2 by omega) 3 (.int .i64 si)) (show w.heap.size + 1 < w.heap.size + 2 by omega) 4 (.bool kn)) (show w.heap.size + 1 < w.heap.size + 2 by omega) 5 (.int .i64 lo)) (show w.heap.size + 1 < w.heap.size + 2 by omega) 6 (.int .i64 hi)) (show w.heap.size + 1 < w.heap.size + 2 by omega) 7 (.int .i64 la)) (show w.heap.size + 1 < w.heap.size + 2 by omega) 8 (.int .i64 te)) (show w.heap.size + 1 < w.heap.size + 2 by omega) 9 (.int .i64 us)) (show w.heap.size + 1 < w.heap.size + 2 by omega) 10 (.slice a1 na c1)) (show w.heap.size + 1 < w.heap.size + 2 by omega) 11 (.slice a2 np c2)) (show w.heap.size + 1 < w.heap.size + 2 by omega) 12 (.bool hs)) (show w.heap.size + 1 < w.heap.size + 2 by omega) 13 (.int .i64 ls)) (show w.heap.size + 1 < w.heap.size + 2 by omega) 14 (.slice a3 nh c3)) (show w.heap.size + 1 < w.heap.size + 2 by omega) 15 (.int .i64 se))
 have HOP : Hid ((((((((((((((((((v6).setCell ⟨w.heap.size + 1, 0, none⟩ (.int .i64 ni)).setCell ⟨w.heap.size + 1, 1, none⟩ (.int .i64 mo)).setCell ⟨w.heap.size + 1, 2, none⟩ (.int .i64 ep)).setCell ⟨w.heap.size + 1, 3, none⟩ (.int .i64 si)).setCell ⟨w.heap.size + 1, 4, none⟩ (.bool kn)).setCell ⟨w.heap.size + 1, 5, none⟩ (.int .i64 lo)).setCell ⟨w.heap.size + 1, 6, none⟩ (.int .i64 hi)).setCell ⟨w.heap.size + 1, 7, none⟩ (.int .i64 la)).setCell ⟨w.heap.size + 1, 8, none⟩ (.int .i64 te)).setCell ⟨w.heap.size + 1, 9, none⟩ (.int .i64 us)).setCell ⟨w.heap.size + 1, 10, none⟩ (.slice a1 na c1)).setCell ⟨w.heap.size + 1, 11, none⟩ (.slice a2 np c2)).setCell ⟨w.heap.size + 1, 12, none⟩ (.bool hs)).setCell ⟨w.heap.size + 1, 13, none⟩ (.int .i64 ls)).setCell ⟨w.heap.size + 1, 14, none⟩ (.slice a3 nh c3)).setCell ⟨w.heap.size + 1, 15, none⟩ (.int .i64 se)).ownsRow (w.heap.size + 2) 154 5 (.slice a2 np c2) np ((List.range (np * 5)).map (am QM))) := (ae (ae (ae (ae (ae (ae (ae (ae (ae (ae (ae (ae (ae (ae (ae (ae OP (show w.heap.size + 1 < w.heap.size + 2 by omega) 0 (.int .i64 ni)) (show w.heap.size + 1 < w.heap.size + 2 by omega) 1 (.int .i64 mo)) (show w.heap.size + 1 < w.heap.size + 2 by omega) 2 (.int .i64 ep)) (show w.heap.size + 1 < w.heap.size + 2 by omega) 3 (.int .i64 si)) (show w.heap.size + 1 < w.heap.size + 2 by omega) 4 (.bool kn)) (show w.heap.size + 1 < w.heap.size + 2 by omega) 5 (.int .i64 lo)) (show w.heap.size + 1 < w.heap.size + 2 by omega) 6 (.int .i64 hi)) (show w.heap.size + 1 < w.heap.size + 2 by omega) 7 (.int .i64 la)) (show w.heap.size + 1 < w.heap.size + 2 by omega) 8 (.int .i64 te)) (show w.heap.size + 1 < w.heap.size + 2 by omega) 9 (.int .i64 us)) (show w.heap.size + 1 < w.heap.size + 2 by omega) 10 (.slice a1 na c1)) (show w.heap.size + 1 < w.heap.size + 2 by omega) 11 (.slice a2 np c2)) (show w.heap.size + 1 < w.heap.size + 2 by omega) 12 (.bool hs)) (show w.heap.size + 1 < w.heap.size + 2 by omega) 13 (.int .i64 ls)) (show w.heap.size + 1 < w.heap.size + 2 by omega) 14 (.slice a3 nh c3)) (show w.heap.size + 1 < w.heap.size + 2 by omega) 15 (.int .i64 se))
 have HOH : Hid ((((((((((((((((((v6).setCell ⟨w.heap.size + 1, 0, none⟩ (.int .i64 ni)).setCell ⟨w.heap.size + 1, 1, none⟩ (.int .i64 mo)).setCell ⟨w.heap.size + 1, 2, none⟩ (.int .i64 ep)).setCell ⟨w.heap.size + 1, 3, none⟩ (.int .i64 si)).setCell ⟨w.heap.size + 1, 4, none⟩ (.bool kn)).setCell ⟨w.heap.size + 1, 5, none⟩ (.int .i64 lo)).setCell ⟨w.heap.size + 1, 6, none⟩ (.int .i64 hi)).setCell ⟨w.heap.size + 1, 7, none⟩ (.int .i64 la)).setCell ⟨w.heap.size + 1, 8, none⟩ (.int .i64 te)).setCell ⟨w.heap.size + 1, 9, none⟩ (.int .i64 us)).setCell ⟨w.heap.size + 1, 10, none⟩ (.slice a1 na c1)).setCell ⟨w.heap.size + 1, 11, none⟩ (.slice a2 np c2)).setCell ⟨w.heap.size + 1, 12, none⟩ (.bool hs)).setCell ⟨w.heap.size + 1, 13, none⟩ (.int .i64 ls)).setCell ⟨w.heap.size + 1, 14, none⟩ (.slice a3 nh c3)).setCell ⟨w.heap.size + 1, 15, none⟩ (.int .i64 se)).ownsRow (w.heap.size + 2) 159 2 (.slice a3 nh c3) nh ((List.range (nh * 2)).map (au HM))) := (ae (ae (ae (ae (ae (ae (ae (ae (ae (ae (ae (ae (ae (ae (ae (ae OH (show w.heap.size + 1 < w.heap.size + 2 by omega) 0 (.int .i64 ni)) (show w.heap.size + 1 < w.heap.size + 2 by omega) 1 (.int .i64 mo)) (show w.heap.size + 1 < w.heap.size + 2 by omega) 2 (.int .i64 ep)) (show w.heap.size + 1 < w.heap.size + 2 by omega) 3 (.int .i64 si)) (show w.heap.size + 1 < w.heap.size + 2 by omega) 4 (.bool kn)) (show w.heap.size + 1 < w.heap.size + 2 by omega) 5 (.int .i64 lo)) (show w.heap.size + 1 < w.heap.size + 2 by omega) 6 (.int .i64 hi)) (show w.heap.size + 1 < w.heap.size + 2 by omega) 7 (.int .i64 la)) (show w.heap.size + 1 < w.heap.size + 2 by omega) 8 (.int .i64 te)) (show w.heap.size + 1 < w.heap.size + 2 by omega) 9 (.int .i64 us)) (show w.heap.size + 1 < w.heap.size + 2 by omega) 10 (.slice a1 na c1)) (show w.heap.size + 1 < w.heap.size + 2 by omega) 11 (.slice a2 np c2)) (show w.heap.size + 1 < w.heap.size + 2 by omega) 12 (.bool hs)) (show w.heap.size + 1 < w.heap.size + 2 by omega) 13 (.int .i64 ls)) (show w.heap.size + 1 < w.heap.size + 2 by omega) 14 (.slice a3 nh c3)) (show w.heap.size + 1 < w.heap.size + 2 by omega) 15 (.int .i64 se))
 have R1 := ((((((((((((((((R.set0 (.int .i64 ni)).set1 (.int .i64 mo)).set2 (.int .i64 ep)).set3 (.int .i64 si)).set4 (.bool kn)).set5 (.int .i64 lo)).set6 (.int .i64 hi)).set7 (.int .i64 la)).set8 (.int .i64 te)).set9 (.int .i64 us)).set10 (.slice a1 na c1)).set11 (.slice a2 np c2)).set12 (.bool hs)).set13 (.int .i64 ls)).set14 (.slice a3 nh c3)).set15 (.int .i64 se))
 have B1 := ((((((((((((((((B.setCell (p := ⟨w.heap.size + 1, 0, none⟩) (by simp) (.int .i64 ni)).setCell (p := ⟨w.heap.size + 1, 1, none⟩) (by simp) (.int .i64 mo)).setCell (p := ⟨w.heap.size + 1, 2, none⟩) (by simp) (.int .i64 ep)).setCell (p := ⟨w.heap.size + 1, 3, none⟩) (by simp) (.int .i64 si)).setCell (p := ⟨w.heap.size + 1, 4, none⟩) (by simp) (.bool kn)).setCell (p := ⟨w.heap.size + 1, 5, none⟩) (by simp) (.int .i64 lo)).setCell (p := ⟨w.heap.size + 1, 6, none⟩) (by simp) (.int .i64 hi)).setCell (p := ⟨w.heap.size + 1, 7, none⟩) (by simp) (.int .i64 la)).setCell (p := ⟨w.heap.size + 1, 8, none⟩) (by simp) (.int .i64 te)).setCell (p := ⟨w.heap.size + 1, 9, none⟩) (by simp) (.int .i64 us)).setCell (p := ⟨w.heap.size + 1, 10, none⟩) (by simp) (.slice a1 na c1)).setCell (p := ⟨w.heap.size + 1, 11, none⟩) (by simp) (.slice a2 np c2)).setCell (p := ⟨w.heap.size + 1, 12, none⟩) (by simp) (.bool hs)).setCell (p := ⟨w.heap.size + 1, 13, none⟩) (by simp) (.int .i64 ls)).setCell (p := ⟨w.heap.size + 1, 14, none⟩) (by simp) (.slice a3 nh c3)).setCell (p := ⟨w.heap.size + 1, 15, none⟩) (by simp) (.int .i64 se))
 clear OA OP OH
 have p0 : _ ∧ _ := R
 go_wp2_with fail
 clear p0 R B
 generalize ((((((((((((((((v6).setCell ⟨w.heap.size + 1, 0, none⟩ (.int .i64 ni)).setCell ⟨w.heap.size + 1, 1, none⟩ (.int .i64 mo)).setCell ⟨w.heap.size + 1, 2, none⟩ (.int .i64 ep)).setCell ⟨w.heap.size + 1, 3, none⟩ (.int .i64 si)).setCell ⟨w.heap.size + 1, 4, none⟩ (.bool kn)).setCell ⟨w.heap.size + 1, 5, none⟩ (.int .i64 lo)).setCell ⟨w.heap.size + 1, 6, none⟩ (.int .i64 hi)).setCell ⟨w.heap.size + 1, 7, none⟩ (.int .i64 la)).setCell ⟨w.heap.size + 1, 8, none⟩ (.int .i64 te)).setCell ⟨w.heap.size + 1, 9, none⟩ (.int .i64 us)).setCell ⟨w.heap.size + 1, 10, none⟩ (.slice a1 na c1)).setCell ⟨w.heap.size + 1, 11, none⟩ (.slice a2 np c2)).setCell ⟨w.heap.size + 1, 12, none⟩ (.bool hs)).setCell ⟨w.heap.size + 1, 13, none⟩ (.int .i64 ls)).setCell ⟨w.heap.size + 1, 14, none⟩ (.slice a3 nh c3)).setCell ⟨w.heap.size + 1, 15, none⟩ (.int .i64 se) = v7 at *
 have p0 : _ ∧ _ := R1
 exact bodyPost_ret (v := (.agg #[.int .i64 ni, .int .i64 mo, .int .i64 ep, .int .i64 si, .bool kn, .int .i64 lo, .int .i64 hi, .int .i64 la, .int .i64 te, .int .i64 us, .slice a1 na c1, .slice a2 np c2, .bool hs, .int .i64 ls, .slice a3 nh c3, .int .i64 se])) (by simp (maxDischargeDepth := 6) [results, Tryz.results26, go_sem, *]) rfl ⟨a1, c1, a2, c2, a3, c3, rfl, ⟨aW HOA.out (by omega), aW HOP.out (by omega), aW HOH.out (by omega)⟩, B1⟩
end Go.Proofs.YtikbjljkakabdaaGreat
