/- TellLine in the program. -/
import Derived.Test.YtddjiamollfplaaDoorI223
import Derived.Laws.AppendOwnNone
import Derived.Deep.RegionHeld3
import Derived.WalkKit
import Derived.WalkSpells
import Derived.WalkLawsBesides
import Derived.Deep.RegionHeld
namespace Go.Proofs.YtddjiamollfplaaDoor
open Go.RowKit
set_option linter.unusedVariables false
theorem own_belowS {w w' : World} {base n : Nat} {v : Value} {xs : List Value} (h : w.ownsRow base 9 1 v n xs) (hb : Below w.heap.size w w') : w'.ownsRow base 9 1 v n xs := by
  refine ⟨h.1, ?_⟩
  rcases h.2 with q | ⟨g, cap, cur, e, h1, h2, h3⟩
  · exact .inl q
  · exact .inr ⟨g, cap, cur, e, h1, by rw [hb.block g (Array.getElem?_eq_some_iff.1 h2).1]; exact h2, h3⟩
theorem add_row {w : World} {ops : Array Oper} {rest : List Oper} {o : Oper} {a : Act} {Q : Exit → Act → World → Prop} (hgd : o.guard = none) (s x : Operand)
    (ho : o.op = .call { callee := .builtin .append, args := #[s, x], argTypes := #[87, 87] }) (base : Nat) (L M : List ByteArray) (v : Value) (hs : a.eval s = v) (hown : w.ownsRow base 9 1 v L.length (srow L))
    (base2 : Nat) (u : Value) (hx : a.eval x = u) (hu : w.ownsRow base2 9 1 u M.length (srow M)) (hL : L.length + M.length ≤ 64) (hbase : base ≤ w.heap.size)
    (h : ∀ v' w', w'.ownsRow base 9 1 v' (L ++ M).length (srow (L ++ M)) → w.grownBy w' v.ownBlock → wpList Tryd.prog ops Q rest (a.put o.dst v') w') :
    wpList Tryd.prog ops Q (o :: rest) a w := by
  rcases hu.2 with ⟨e, h0⟩ | ⟨g, cap, cur, e, _⟩
  · have hM : M = [] := List.eq_nil_of_length_eq_zero h0
    subst hM
    obtain ⟨i0, hi, hz0, hz1, hz2⟩ := info_parts info_str
    refine wpList_append_own_none hgd s x 87 ho base 9 i0 1 Tryd.underlying87 hi v L.length (srow L) hs hown (hx.trans e) ?_
    exact h v w (by rw [List.append_nil]; exact hown) ⟨rfl, rfl, rfl, Nat.le_refl _, fun _ _ _ => rfl⟩
  · subst e
    refine add_strs hgd s x ho base L M v hs hown ⟨g, 0, none⟩ cap hx (fun j u hj => ?_) hL hbase h
    have hj' : j < M.length := by have := (List.getElem?_eq_some_iff.1 hj).1; rwa [srow_len] at this
    rw [add_atX, Nat.zero_add, World.ownsRow.cellAt hu j (by omega)]
    exact hj
set_option maxHeartbeats 8000000 in
set_option maxRecDepth 100000 in
theorem words_any (k nd cd v : Int) (hd kn : Bool) (wl wh nl nh : Int) (w : World) (E : T10 w) (EW : OpW w) (g0 : -9223372036854775808 ≤ nd ∧ nd ≤ 9223372036854775807) (g1 : -9223372036854775808 ≤ cd ∧ cd ≤ 9223372036854775807) (g2 : -9223372036854775808 ≤ v ∧ v ≤ 9223372036854775807) (g3 : -9223372036854775808 ≤ nl ∧ nl ≤ 9223372036854775807) (g4 : -9223372036854775808 ≤ nh ∧ nh ≤ 9223372036854775807) :
    Calls Tryd.prog 82 #[.agg #[.int .i64 k, .int .i64 nd, .int .i64 cd, .int .i64 v, .bool hd, .bool kn, .int .i64 wl, .int .i64 wh, .int .i64 nl, .int .i64 nh]] w fun e w' => ∃ u, e = .returned u ∧ w'.ownsRow w.heap.size 9 1 u (tlW k nd cd v hd nl nh).length (srow (tlW k nd cd v hd nl nh)) ∧ Below w.heap.size w w' := by
  obtain ⟨i0, hi, hz0, hz1, hz2⟩ := info_parts info_str
  have B := Below.nw w (.cells #[.int .i64 k, .int .i64 nd, .int .i64 cd, .int .i64 v, .bool hd, .bool kn, .int .i64 wl, .int .i64 wh, .int .i64 nl, .int .i64 nh] 66)
  have N := Bo.new w #[.int .i64 k, .int .i64 nd, .int .i64 cd, .int .i64 v, .bool hd, .bool kn, .int .i64 wl, .int .i64 wh, .int .i64 nl, .int .i64 nh] 66
  have HE : Hid (T10 w) := E
  have HW : Hid (OpW w) := EW
  have CW := fun (u : World) (h : Below w.heap.size w u) => wordOf_any k u (HW.out.below h)
  have CO := fun (u : World) (h : Below w.heap.size w u) => isOfNode_any k nd cd v hd kn wl wh nl nh u (HW.out.below h)
  have CC := fun (u : World) (h : Below w.heap.size w u) => outcome_any k nd cd v hd kn wl wh nl nh u (HE.out.below h) g2 g3 g4
  have CTn := fun (u : World) (h : Below w.heap.size w u) => implTextOf_any nd u g0.1 g0.2 (HE.out.below h)
  have CTc := fun (u : World) (h : Below w.heap.size w u) => implTextOf_any cd u g1.1 g1.2 (HE.out.below h)
  have HT : Hid (onB k = true → tlW k nd cd v hd nl nh = [nmK k, txI nd, txI cd] ++ (if cd = 0 then ocL k v hd nl nh else [])) := tlW_t nd cd v hd nl nh
  have HF : Hid (onB k = false → tlW k nd cd v hd nl nh = [nmK k]) := tlW_f nd cd v hd nl nh
  have hol : (ocL k v hd nl nh).length ≤ 2 := by
    unfold ocL
    repeat' split
    all_goals simp
  clear E EW g0 g1 g2 g3 g4
  generalize tlW k nd cd v hd nl nh = WL at *
  generalize ocL k v hd nl nh = LL at *
  generalize nmK k = nm at *
  generalize txI nd = sn at *
  generalize txI cd = sc at *
  go_enter Tryd.func82, Tryd.ntmps82
  go_upto_region 1 with fail
  generalize w.alloc (.cells #[.int .i64 k, .int .i64 nd, .int .i64 cd, .int .i64 v, .bool hd, .bool kn, .int .i64 wl, .int .i64 wh, .int .i64 nl, .int .i64 nh] 66) = x0 at *
  have c0 : x0.cell? ⟨w.heap.size, 0, none⟩ = some (.int .i64 k) := N.cell (i := 0) rfl
  have c1 : x0.cell? ⟨w.heap.size, 1, none⟩ = some (.int .i64 nd) := N.cell (i := 1) rfl
  have c2 : x0.cell? ⟨w.heap.size, 2, none⟩ = some (.int .i64 cd) := N.cell (i := 2) rfl
  have c3 : x0.cell? ⟨w.heap.size, 3, none⟩ = some (.int .i64 v) := N.cell (i := 3) rfl
  have c4 : x0.cell? ⟨w.heap.size, 4, none⟩ = some (.bool hd) := N.cell (i := 4) rfl
  have c5 : x0.cell? ⟨w.heap.size, 5, none⟩ = some (.bool kn) := N.cell (i := 5) rfl
  have c6 : x0.cell? ⟨w.heap.size, 6, none⟩ = some (.int .i64 wl) := N.cell (i := 6) rfl
  have c7 : x0.cell? ⟨w.heap.size, 7, none⟩ = some (.int .i64 wh) := N.cell (i := 7) rfl
  have c8 : x0.cell? ⟨w.heap.size, 8, none⟩ = some (.int .i64 nl) := N.cell (i := 8) rfl
  have c9 : x0.cell? ⟨w.heap.size, 9, none⟩ = some (.int .i64 nh) := N.cell (i := 9) rfl
  have hw1 := N.1
  go_wp2_with fail
  refine (CW _ B).mono ?_
  rintro e x1 ⟨rfl, hb⟩
  replace N := N.below hb
  replace B := B.trans (hb.mono B.size)
  have hw2 := Nat.lt_of_lt_of_le hw1 hb.size
  clear hb CW c0 c1 c2 c3 c4 c5 c6 c7 c8 c9
  have O0 := strs_new x1 [nm] (by show (1 : Nat) ≤ 64; omega)
  have b2 := Below.nw x1 (.cells (srow [nm]).toArray 9)
  go_upto_region 2 with fail
  change Below x1.heap.size x1 (x1.alloc (.cells #[.string nm] 9)) at b2
  change (x1.alloc (.cells #[.string nm] 9)).ownsRow x1.heap.size 9 1 (.slice (some ⟨x1.heap.size, 0, none⟩) 1 1) 1 (srow [nm]) at O0
  have O1 := own_baseX O0 (show w.heap.size + 1 ≤ x1.heap.size by omega)
  replace N := N.below b2
  replace B := B.trans (b2.mono B.size)
  have hlo1 : w.heap.size + 1 ≤ (x1.alloc (.cells #[.string nm] 9)).heap.size := Nat.le_trans (show w.heap.size + 1 ≤ x1.heap.size by omega) b2.size
  clear b2 O0
  generalize x1.alloc (.cells #[.string nm] 9) = xa at *
  generalize x1.heap.size = ga at *
  have c0 : xa.cell? ⟨w.heap.size, 0, none⟩ = some (.int .i64 k) := N.cell (i := 0) rfl
  have c1 : xa.cell? ⟨w.heap.size, 1, none⟩ = some (.int .i64 nd) := N.cell (i := 1) rfl
  have c2 : xa.cell? ⟨w.heap.size, 2, none⟩ = some (.int .i64 cd) := N.cell (i := 2) rfl
  have c3 : xa.cell? ⟨w.heap.size, 3, none⟩ = some (.int .i64 v) := N.cell (i := 3) rfl
  have c4 : xa.cell? ⟨w.heap.size, 4, none⟩ = some (.bool hd) := N.cell (i := 4) rfl
  have c5 : xa.cell? ⟨w.heap.size, 5, none⟩ = some (.bool kn) := N.cell (i := 5) rfl
  have c6 : xa.cell? ⟨w.heap.size, 6, none⟩ = some (.int .i64 wl) := N.cell (i := 6) rfl
  have c7 : xa.cell? ⟨w.heap.size, 7, none⟩ = some (.int .i64 wh) := N.cell (i := 7) rfl
  have c8 : xa.cell? ⟨w.heap.size, 8, none⟩ = some (.int .i64 nl) := N.cell (i := 8) rfl
  have c9 : xa.cell? ⟨w.heap.size, 9, none⟩ = some (.int .i64 nh) := N.cell (i := 9) rfl
  go_wp2_with fail
  refine (CO _ B).mono ?_
  rintro e x2 ⟨rfl, hb⟩
  replace N := N.below hb
  replace B := B.trans (hb.mono B.size)
  have O := own_belowS O1 hb
  have hlo := Nat.le_trans hlo1 hb.size
  clear hb CO c0 c1 c2 c3 c4 c5 c6 c7 c8 c9 O1 hlo1
  cases hon : onB k
  · have hWL := HF.out hon
    clear HT HF CC CTn CTc
    go_wp2_with fail
    go_ret
    exact ⟨_, rfl, by rw [hWL]; exact own_baseX O (Nat.le_succ _), B⟩
  have HWL : Hid (WL = [nm, sn, sc] ++ (if cd = 0 then LL else [])) := HT.out hon
  clear HT HF hon
  have c1 : x2.cell? ⟨w.heap.size, 1, none⟩ = some (.int .i64 nd) := N.cell (i := 1) rfl
  have c2 : x2.cell? ⟨w.heap.size, 2, none⟩ = some (.int .i64 cd) := N.cell (i := 2) rfl
  have hlt := N.1
  go_upto_region 4 with fail
  have SK : Hid (∀ w', Below x2.heap.size x2 w' → (fun w' => w'.cell? ⟨w.heap.size, 1, none⟩ = some (.int .i64 nd) ∧ w'.cell? ⟨w.heap.size, 2, none⟩ = some (.int .i64 cd)) w') := fun w' h => ⟨by rw [h.cell (p := ⟨w.heap.size, 1, none⟩) hlt]; exact c1, by rw [h.cell (p := ⟨w.heap.size, 2, none⟩) hlt]; exact c2⟩
  clear c1 c2
  refine wp_region_held_drew (S := (fun w' => w'.cell? ⟨w.heap.size, 1, none⟩ = some (.int .i64 nd) ∧ w'.cell? ⟨w.heap.size, 2, none⟩ = some (.int .i64 cd))) (by kernel_rfl) ?_ (fun hHeld => ?_)
  · first | exact SK.out _ XB | exact SK.out _ (Below.drew (Below.refl _ _))
  have XB : Below x2.heap.size x2 x2.drew := Below.drew (Below.refl _ _)
  generalize x2.drew = vx at *
  refine wpAnyH_take (i := 0) (v := ?_) (by rw [List.getElem?_toArray]; rfl) (by kernel_rfl) (by kernel_rfl) (by kernel_rfl) (by intro _ _ _ h; exact h) (Or.inl ⟨by rfl, ?_⟩) (by assumption) ?_
  rotate_left
  · (intro w hSw; (try dsimp only at hSw); go_simp; all_goals with_reducible rfl)
  (try simp only [Act.put, List.setIfInBounds_toArray, List.set_cons_zero, List.set_cons_succ])
  refine wpAnyH_take (i := 1) (v := ?_) (by rw [List.getElem?_toArray]; rfl) (by kernel_rfl) (by kernel_rfl) (by kernel_rfl) (by intro _ _ _ h; exact h) (Or.inl ⟨by rfl, ?_⟩) (by assumption) ?_
  rotate_left
  · (intro w hSw; (try dsimp only at hSw); go_simp; all_goals with_reducible rfl)
  (try simp only [Act.put, List.setIfInBounds_toArray, List.set_cons_zero, List.set_cons_succ])
  refine wpAnyH_take (i := 2) (v := ?_) (by rw [List.getElem?_toArray]; rfl) (by kernel_rfl) (by kernel_rfl) (by kernel_rfl) (by intro _ _ _ h; exact h) (Or.inl ⟨by rfl, ?_⟩) (by assumption) ?_
  rotate_left
  · (intro w hSw; (try dsimp only at hSw); go_simp; all_goals with_reducible rfl)
  (try simp only [Act.put, List.setIfInBounds_toArray, List.set_cons_zero, List.set_cons_succ])
  refine wpAnyH_take (i := 4) (v := ?_) (by rw [List.getElem?_toArray]; rfl) (by kernel_rfl) (by kernel_rfl) (by kernel_rfl) (by intro _ _ _ h; exact h) (Or.inl ⟨by rfl, ?_⟩) (by assumption) ?_
  rotate_left
  · (intro w hSw; (try dsimp only at hSw); go_simp; all_goals with_reducible rfl)
  (try simp only [Act.put, List.setIfInBounds_toArray, List.set_cons_zero, List.set_cons_succ])
  refine wpAnyH_take (i := 5) (v := ?_) (by rw [List.getElem?_toArray]; rfl) (by kernel_rfl) (by kernel_rfl) (by kernel_rfl) (by intro _ _ _ h; exact h) (Or.inl ⟨by rfl, ?_⟩) (by assumption) ?_
  rotate_left
  · (intro w hSw; (try dsimp only at hSw); go_simp; all_goals with_reducible rfl)
  (try simp only [Act.put, List.setIfInBounds_toArray, List.set_cons_zero, List.set_cons_succ])
  refine wpAnyH_ready (rs := [3]) (by kernel_rfl) (by simp) ?_
  refine (AllReadyH.cons (by rw [List.getElem?_toArray]; rfl) (fun K hK => ?_) AllReadyH.nil)
  go_simp
  refine (CTn _ (B.trans (XB.mono B.size))).mono ?_; rintro ee vx ⟨rfl, hbl⟩; (replace XB := XB.trans (hbl.mono XB.size)); (clear hbl)
  (try go_wp2_with fail)
  refine hK.out _ _ ?_ (fun hHeld => ?_)
  · first | exact SK.out _ XB | exact SK.out _ (Below.drew (Below.refl _ _))
  clear hK K
  (try simp only [Act.put, List.setIfInBounds_toArray, List.set_cons_zero, List.set_cons_succ])
  refine wpAnyH_ready (rs := [6]) (by kernel_rfl) (by simp) ?_
  refine (AllReadyH.cons (by rw [List.getElem?_toArray]; rfl) (fun K hK => ?_) AllReadyH.nil)
  go_simp
  refine (CTc _ (B.trans (XB.mono B.size))).mono ?_; rintro ee vx ⟨rfl, hbl⟩; (replace XB := XB.trans (hbl.mono XB.size)); (clear hbl)
  (try go_wp2_with fail)
  refine hK.out _ _ ?_ (fun hHeld => ?_)
  · first | exact SK.out _ XB | exact SK.out _ (Below.drew (Below.refl _ _))
  clear hK K
  (try simp only [Act.put, List.setIfInBounds_toArray, List.set_cons_zero, List.set_cons_succ])
  refine wpAnyH_ready (rs := [7]) (by kernel_rfl) (by simp) ?_
  refine (AllReadyH.cons (by rw [List.getElem?_toArray]; rfl) (fun K hK => ?_) AllReadyH.nil)
  go_simp
  (have HM : Hid (∀ j u, (srow [sn, sc])[j]? = some u → (vx.alloc (.cells #[.string sn, .string sc] 9)).cell? ((⟨vx.heap.size, 0, none⟩ : Addr).add j) = some u) := strs_cell vx [sn, sc]); (have XB7 : Below vx.heap.size vx (vx.alloc (.cells #[.string sn, .string sc] 9)) := Below.nw vx _); (replace XB := XB.trans (XB7.mono XB.size)); (clear XB7); (generalize (vx.alloc (.cells #[.string sn, .string sc] 9)) = vy at *); (generalize vx.heap.size = q at *)
  refine hK.out _ _ ?_ (fun hHeld => ?_)
  · first | exact SK.out _ XB | exact SK.out _ (Below.drew (Below.refl _ _))
  clear hK K
  (try simp only [Act.put, List.setIfInBounds_toArray, List.set_cons_zero, List.set_cons_succ])
  refine wpAnyH_ready (rs := [8]) (by kernel_rfl) (by simp) ?_
  refine (AllReadyH.cons (by rw [List.getElem?_toArray]; rfl) (fun K hK => ?_) AllReadyH.nil)
  (rw [if_pos (by rfl)]); refine wp_append_own _ _ _ 87 rfl (w.heap.size + 1) 9 i0 (.string ⟨#[]⟩) 1 16 Tryd.underlying87 hi hz0 hz1 hz2 rfl (by decide) _ 1 (srow [nm]) rfl (own_belowS O XB) ⟨q, 0, none⟩ 2 2 (srow [sn, sc]) rfl rfl HM.out (srow_one _) (by unfold maxLen; decide) (by decide) (Nat.le_trans hlo XB.size) ?_; intro v3 wn O4 hg4 _; (have Bg := grown_belowS (L := [nm]) (own_belowS O XB) hg4 (Nat.le_trans hlo XB.size)); (have KS : (fun w' => w'.cell? ⟨w.heap.size, 1, none⟩ = some (.int .i64 nd) ∧ w'.cell? ⟨w.heap.size, 2, none⟩ = some (.int .i64 cd)) wn := ⟨(Bg.cell (p := ⟨w.heap.size, 1, none⟩) (Nat.lt_succ_self _)).trans (SK.out _ XB).1, (Bg.cell (p := ⟨w.heap.size, 2, none⟩) (Nat.lt_succ_self _)).trans (SK.out _ XB).2⟩)
  refine hK.out _ _ ?_ (fun hHeld => ?_)
  · exact KS
  clear hK K
  (try simp only [Act.put, List.setIfInBounds_toArray, List.set_cons_zero, List.set_cons_succ])
  refine wpAnyH_take (i := 9) (v := ?_) (by rw [List.getElem?_toArray]; rfl) (by kernel_rfl) (by kernel_rfl) (by kernel_rfl) (by intro _ _ _ h; exact h) (Or.inl ⟨by rfl, ?_⟩) (by assumption) ?_
  rotate_left
  · (intro w hSw; (try dsimp only at hSw); go_simp; all_goals with_reducible rfl)
  (try simp only [Act.put, List.setIfInBounds_toArray, List.set_cons_zero, List.set_cons_succ])
  refine wpAnyH_done (by kernel_rfl) ?_ _
  replace N := (N.below XB).belowB Bg (Nat.lt_succ_self _)
  replace B := (B.trans (XB.mono B.size)).trans (Bg.mono (Nat.le_succ _))
  have hlo2 := Nat.le_trans (Nat.le_trans hlo XB.size) Bg.size
  clear SK XB Bg KS O hg4 HM hlo CTn CTc
  have O5 : wn.ownsRow (w.heap.size + 1) 9 1 v3 [nm, sn, sc].length (srow [nm, sn, sc]) := O4
  clear O4
  have c0 : wn.cell? ⟨w.heap.size, 0, none⟩ = some (.int .i64 k) := N.cell (i := 0) rfl
  have c1 : wn.cell? ⟨w.heap.size, 1, none⟩ = some (.int .i64 nd) := N.cell (i := 1) rfl
  have c2 : wn.cell? ⟨w.heap.size, 2, none⟩ = some (.int .i64 cd) := N.cell (i := 2) rfl
  have c3 : wn.cell? ⟨w.heap.size, 3, none⟩ = some (.int .i64 v) := N.cell (i := 3) rfl
  have c4 : wn.cell? ⟨w.heap.size, 4, none⟩ = some (.bool hd) := N.cell (i := 4) rfl
  have c5 : wn.cell? ⟨w.heap.size, 5, none⟩ = some (.bool kn) := N.cell (i := 5) rfl
  have c6 : wn.cell? ⟨w.heap.size, 6, none⟩ = some (.int .i64 wl) := N.cell (i := 6) rfl
  have c7 : wn.cell? ⟨w.heap.size, 7, none⟩ = some (.int .i64 wh) := N.cell (i := 7) rfl
  have c8 : wn.cell? ⟨w.heap.size, 8, none⟩ = some (.int .i64 nl) := N.cell (i := 8) rfl
  have c9 : wn.cell? ⟨w.heap.size, 9, none⟩ = some (.int .i64 nh) := N.cell (i := 9) rfl
  by_cases hc : cd = 0
  rotate_left
  · have hc' : (cd != 0) = true := by simp [hc]
    have hWL : WL = [nm, sn, sc] := by rw [HWL.out, if_neg hc]; rfl
    clear CC HWL
    go_wp2_with fail
    go_ret
    exact ⟨_, rfl, by rw [hWL]; exact own_baseX O5 (Nat.le_succ _), B⟩
  have hc' : (cd != 0) = false := by simp [hc]
  have HWL2 : Hid (WL = [nm, sn, sc] ++ LL) := by (show WL = _; rw [HWL.out, if_pos hc])
  clear HWL hc
  go_wp2_with fail
  refine (CC _ B).mono ?_
  rintro e x4 ⟨u4, rfl, OU, hb⟩
  have O6 := own_belowS O5 hb
  replace B := B.trans (hb.mono B.size)
  have hlo3 := Nat.le_trans hlo2 hb.size
  clear hb O5 N CC c0 c1 c2 c3 c4 c5 c6 c7 c8 c9
  go_wp2_with (at_builtin; refine add_row rfl _ _ rfl (w.heap.size + 1) [nm, sn, sc] LL _ rfl O6 _ _ rfl OU (by show 3 + LL.length ≤ 64; omega) hlo3 ?_; intro v7 x7 O7 hg7)
  have b7 := grown_belowS (L := [nm, sn, sc]) O6 hg7 hlo3
  go_wp2_with fail
  go_ret
  exact ⟨_, rfl, by rw [HWL2.out]; exact own_baseX O7 (Nat.le_succ _), B.trans (b7.mono (Nat.le_succ _))⟩
theorem joined_any (L : List ByteArray) (v : Value) (w : World) (base : Nat) (h : w.ownsRow base 9 1 v L.length (srow L)) (h0 : 0 < L.length) (hl : L.length ≤ 64) (hz : ∀ x ∈ L, x.size ≤ 64) :
    Calls Tryd.prog 81 #[v] w fun e w' => e = .returned (.string (jnB L)) ∧ Below w.heap.size w w' := by
  obtain ⟨g, cap, rfl, hg, hcap, hcells⟩ := own_strs h h0
  have hlen := jn_le hz
  have hle : (Go.Lib.join (L.map (·.data.toList)) spB.data.toList).length ≤ 140737488355328 := Nat.le_trans hlen (Nat.le_trans (Nat.mul_le_mul_right 65 hl) (by decide))
  have CJ := Any.strings_Join joinA joinX g 0 cap L spB w hcells hg (by omega) hcap hle
  change Calls Tryd.prog 61 #[.slice (some ⟨g, 0, none⟩) L.length cap, .string ⟨#[32]⟩] w (fun e w' => e = .returned (.string (jnB L)) ∧ Below w.heap.size w w') at CJ
  generalize jnB L = X at *
  clear hcells hlen hle h hz
  generalize L.length = n at *
  go_enter Tryd.func81, Tryd.ntmps81
  go_wp2_with fail
  refine CJ.mono ?_
  rintro e w1 ⟨rfl, hb⟩
  go_wp2_with fail
  go_ret
  exact ⟨rfl, hb⟩
set_option maxHeartbeats 4000000 in
theorem implTellLine_any (k nd cd v : Int) (hd kn : Bool) (wl wh nl nh : Int) (w : World) (E : T10 w) (EW : OpW w) (g0 : -9223372036854775808 ≤ nd ∧ nd ≤ 9223372036854775807) (g1 : -9223372036854775808 ≤ cd ∧ cd ≤ 9223372036854775807) (g2 : -9223372036854775808 ≤ v ∧ v ≤ 9223372036854775807) (g3 : -9223372036854775808 ≤ nl ∧ nl ≤ 9223372036854775807) (g4 : -9223372036854775808 ≤ nh ∧ nh ≤ 9223372036854775807) :
    Calls Tryd.prog 44 #[.agg #[.int .i64 k, .int .i64 nd, .int .i64 cd, .int .i64 v, .bool hd, .bool kn, .int .i64 wl, .int .i64 wh, .int .i64 nl, .int .i64 nh]] w fun e w' => e = .returned (.string (tlB k nd cd v hd nl nh)) ∧ Below w.heap.size w w' := by
  have B := Below.nw w (.cells #[.int .i64 k, .int .i64 nd, .int .i64 cd, .int .i64 v, .bool hd, .bool kn, .int .i64 wl, .int .i64 wh, .int .i64 nl, .int .i64 nh] 66)
  have N := Bo.new w #[.int .i64 k, .int .i64 nd, .int .i64 cd, .int .i64 v, .bool hd, .bool kn, .int .i64 wl, .int .i64 wh, .int .i64 nl, .int .i64 nh] 66
  have HE : Hid (T10 w) := E
  have HW : Hid (OpW w) := EW
  have CW := fun (u : World) (h : Below w.heap.size w u) => words_any k nd cd v hd kn wl wh nl nh u (HE.out.below h) (HW.out.below h) g0 g1 g2 g3 g4
  obtain ⟨z0, z1, z2⟩ := tlW_size k nd cd v hd nl nh
  have HX : Hid (jnB (tlW k nd cd v hd nl nh) = tlB k nd cd v hd nl nh) := tl_jn k nd cd v hd nl nh
  have HZ : Hid (∀ x ∈ tlW k nd cd v hd nl nh, x.size ≤ 64) := fun x hx => Nat.le_trans (z0 x hx) (by decide)
  clear E EW g0 g1 g2 g3 g4 z0
  generalize tlW k nd cd v hd nl nh = WL at *
  generalize tlB k nd cd v hd nl nh = X at *
  go_enter Tryd.func44, Tryd.ntmps44
  go_upto_region 1 with fail
  generalize w.alloc (.cells #[.int .i64 k, .int .i64 nd, .int .i64 cd, .int .i64 v, .bool hd, .bool kn, .int .i64 wl, .int .i64 wh, .int .i64 nl, .int .i64 nh] 66) = x0 at *
  have c0 : x0.cell? ⟨w.heap.size, 0, none⟩ = some (.int .i64 k) := N.cell (i := 0) rfl
  have c1 : x0.cell? ⟨w.heap.size, 1, none⟩ = some (.int .i64 nd) := N.cell (i := 1) rfl
  have c2 : x0.cell? ⟨w.heap.size, 2, none⟩ = some (.int .i64 cd) := N.cell (i := 2) rfl
  have c3 : x0.cell? ⟨w.heap.size, 3, none⟩ = some (.int .i64 v) := N.cell (i := 3) rfl
  have c4 : x0.cell? ⟨w.heap.size, 4, none⟩ = some (.bool hd) := N.cell (i := 4) rfl
  have c5 : x0.cell? ⟨w.heap.size, 5, none⟩ = some (.bool kn) := N.cell (i := 5) rfl
  have c6 : x0.cell? ⟨w.heap.size, 6, none⟩ = some (.int .i64 wl) := N.cell (i := 6) rfl
  have c7 : x0.cell? ⟨w.heap.size, 7, none⟩ = some (.int .i64 wh) := N.cell (i := 7) rfl
  have c8 : x0.cell? ⟨w.heap.size, 8, none⟩ = some (.int .i64 nl) := N.cell (i := 8) rfl
  have c9 : x0.cell? ⟨w.heap.size, 9, none⟩ = some (.int .i64 nh) := N.cell (i := 9) rfl
  go_wp2_with fail
  refine (CW _ B).mono ?_
  rintro e x1 ⟨u, rfl, O, hb⟩
  replace B := B.trans (hb.mono B.size)
  clear hb CW c0 c1 c2 c3 c4 c5 c6 c7 c8 c9 N
  go_wp2_with fail
  refine (joined_any WL u _ _ O z2 (by omega) HZ.out).mono ?_
  rintro e x2 ⟨rfl, hb⟩
  go_wp2_with fail
  go_ret
  exact ⟨by rw [HX.out]; rfl, B.trans (hb.mono B.size)⟩
end Go.Proofs.YtddjiamollfplaaDoor
