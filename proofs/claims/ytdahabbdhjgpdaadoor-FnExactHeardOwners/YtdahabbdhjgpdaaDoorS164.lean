/- HeardNow in the specification. -/
import Derived.Test.YtdahabbdhjgpdaaDoorS163
import Derived.Deep.RegionHeld3
import Derived.Deep.DeepCutAuto
import Derived.WalkKit
import Derived.WalkSpells
import Derived.WalkLawsBesides
import Derived.Deep.RegionHeld
namespace Go.Proofs.YtdahabbdhjgpdaaDoor
open Go.RowKit
set_option linter.unusedVariables false
theorem own_baseI16 {w : World} {base base' s n : Nat} {T : TypeId} {v : Value} {xs : List Value} (h : w.ownsRow base' T s v n xs) (hb : base ≤ base') : w.ownsRow base T s v n xs := by
  refine ⟨h.1, ?_⟩
  rcases h.2 with q | ⟨g, cap, cur, h1, h2, h3⟩
  · exact .inl q
  · exact .inr ⟨g, cap, cur, h1, Nat.le_trans hb h2, h3⟩
theorem sub_w {x y : Int} (h1 : 0 ≤ y) (h2 : y ≤ x) (h3 : x ≤ 1000000000000) : IntKind.i64.wrap (x - y) = x - y ∧ wrap64 (x - y) = x - y := ⟨Go.IntWalk.i64_in _ ⟨by omega, by omega⟩, Go.IntWalk.wrap64_in _ ⟨by omega, by omega⟩⟩
/- Which slots are heard now, in the specification. -/
set_option maxRecDepth 100000 in
set_option maxHeartbeats 8000000 in
theorem specHeardNow_any (a : Option Addr) (n k : Nat) (M : Nat → VT) (s g : Int) (p : Option Addr) (m d : Nat) (PM : Nat → SlT) (nu de c : Int) (w : World) (hm : n ≤ maxLen) (hs : SrcC w a (n * 2) (MFIval M)) (hpm : m ≤ maxLen) (hp : SrcC w p (m * 2) (MFSlot PM)) :
    Calls Tryd.prog 22 #[.slice a n k, .agg #[.int .i64 s, .int .i64 g, .slice p m d], .agg #[.int .i64 nu, .int .i64 de], .int .i64 c] w fun e w' => ∃ v, e = .returned v ∧ w'.ownsRow w.heap.size 3 1 v (nwL M n s g PM m nu de c).length (irow (nwL M n s g PM m nu de c)) ∧ Below w.heap.size w w' := by
  have A0 := Below.nw w (.cells #[.int .i64 s, .int .i64 g, .slice p m d] 27)
  have A1 := Below.nw (w.alloc (.cells #[.int .i64 s, .int .i64 g, .slice p m d] 27)) (.cells #[.int .i64 nu, .int .i64 de] 39)
  have N := (Tx3.new w (.int .i64 s) (.int .i64 g) (.slice p m d) 27).below A1
  have D := Bx2.new (w.alloc (.cells #[.int .i64 s, .int .i64 g, .slice p m d] 27)) (.int .i64 nu) (.int .i64 de) 39
  have B := A0.trans (A1.mono A0.size)
  have A2 := Below.nw ((w.alloc (.cells #[.int .i64 s, .int .i64 g, .slice p m d] 27)).alloc (.cells #[.int .i64 nu, .int .i64 de] 39)) (.cells #[] 3)
  have OW := made_int ((w.alloc (.cells #[.int .i64 s, .int .i64 g, .slice p m d] 27)).alloc (.cells #[.int .i64 nu, .int .i64 de] 39))
  replace N := N.below A2
  replace D := D.below A2
  replace B := B.trans (A2.mono B.size)
  have hjs : w.heap.size + 2 ≤ (((w.alloc (.cells #[.int .i64 s, .int .i64 g, .slice p m d] 27)).alloc (.cells #[.int .i64 nu, .int .i64 de] 39)).alloc (.cells #[] 3)).heap.size := by simp
  simp only [World.size_alloc] at D OW
  clear A0 A1 A2
  have HS : Hid (SrcC w a (n * 2) (MFIval M)) := hs
  have HP : Hid (SrcC w p (m * 2) (MFSlot PM)) := hp
  have C1 := fun w' h h' => l16Right_any a n k M s g p m d PM nu de c w' hm h hpm h'
  clear hs hp
  cases h1 : rtB M n s g PM m nu de c
  · rw [show nwL M n s g PM m nu de c = [] by unfold nwL; rw [h1]]
    go_enter Tryd.func22, Tryd.ntmps22; go_upto_region 2 with fail; generalize ((w.alloc (.cells #[.int .i64 s, .int .i64 g, .slice p m d] 27)).alloc (.cells #[.int .i64 nu, .int .i64 de] 39)).alloc (.cells #[] 3) = v at *
    obtain ⟨n0, n1, n2, n3, n4, n5, n6⟩ := id N; obtain ⟨d0, d1, d2, d3, d4⟩ := id D; go_wp2_with fail; refine (C1 _ (HS.out.below B) (HP.out.below B)).mono ?_; rintro e v1 ⟨rfl, hb⟩; clear n0 n1 n2 n3 n4 n5 n6; clear d0 d1 d2 d3 d4; replace B := B.trans (hb.mono B.size); replace N := N.below hb; replace D := D.below hb; replace OW := own_belK' OW hb; replace hjs := Nat.le_trans hjs hb.size; clear hb; rw [h1]
    go_wp2_with fail
    go_ret
    exact ⟨_, rfl, own_baseI16 OW (Nat.le_add_right w.heap.size 2), B⟩
  rw [show nwL M n s g PM m nu de c = fiL (nwP M s g PM m nu de c) (slS M) n by unfold nwL; rw [h1]]
  obtain ⟨r1, r2, r3, r4⟩ := rtB_t h1
  have hn16 := (hrB_t r1).1
  have hc := okT_t16 r4
  have C2 := fun w' h => specRoundOf_any s g p m d PM w' hpm h
  have HAT : Hid (∀ j, j < n → 0 ≤ (M j).2) := fun j hj => (hrO_t (hrA_at (hrB_t r1).2 hj).1).2.1
  have HY : Hid (∀ j, nwP M s g PM m nu de c j = true → fiL (nwP M s g PM m nu de c) (slS M) (j + 1) = fiL (nwP M s g PM m nu de c) (slS M) j ++ [(M j).1]) := fun j h => fiL_yes h
  have HX : Hid (∀ j, nwP M s g PM m nu de c j = false → fiL (nwP M s g PM m nu de c) (slS M) (j + 1) = fiL (nwP M s g PM m nu de c) (slS M) j) := fun j h => fiL_no h
  have HLN : Hid (∀ j, (fiL (nwP M s g PM m nu de c) (slS M) j).length ≤ j) := fiL_len _ _
  have HPP : Hid (∀ j, nwP M s g PM m nu de c j = (decide ((M j).2 ≤ c) && (lsB nu de (c - (M j).2) && decide (lsT nu de (c - (M j).2) ≤ rnI s g PM m)))) := fun j => rfl
  have HL0 : Hid (fiL (nwP M s g PM m nu de c) (slS M) 0 = []) := rfl
  have CL0 : Hid (∀ x w', Calls Tryd.prog 61 #[.agg #[.int .i64 nu, .int .i64 de], .int .i64 x] w' fun e w'' => e = .returned (.tuple #[.int .i64 (lsT nu de x), .bool (lsB nu de x)]) ∧ Below w'.heap.size w' w'') := fun x w' => specLeastTime_any nu de x w'
  generalize fiL (nwP M s g PM m nu de c) (slS M) = L at *
  generalize nwP M s g PM m nu de c = P at *
  go_enter Tryd.func22, Tryd.ntmps22; go_upto_region 2 with fail; generalize ((w.alloc (.cells #[.int .i64 s, .int .i64 g, .slice p m d] 27)).alloc (.cells #[.int .i64 nu, .int .i64 de] 39)).alloc (.cells #[] 3) = v at *
  obtain ⟨n0, n1, n2, n3, n4, n5, n6⟩ := id N; obtain ⟨d0, d1, d2, d3, d4⟩ := id D; go_wp2_with fail; refine (C1 _ (HS.out.below B) (HP.out.below B)).mono ?_; rintro e v1 ⟨rfl, hb⟩; clear n0 n1 n2 n3 n4 n5 n6; clear d0 d1 d2 d3 d4; replace B := B.trans (hb.mono B.size); replace N := N.below hb; replace D := D.below hb; replace OW := own_belK' OW hb; replace hjs := Nat.le_trans hjs hb.size; clear hb; rw [h1]
  clear C1 h1 r1 r2 r3 r4 hm hpm
  have HB1 : Hid (Below w.heap.size w v1) := B
  have HN1 : Hid (Tx3 v1 w.heap.size (.int .i64 s) (.int .i64 g) (.slice p m d)) := N
  have HD1 : Hid (Bx2 v1 (w.heap.size + 1) (.int .i64 nu) (.int .i64 de)) := D
  have HO1 : Hid (v1.ownsRow (w.heap.size + 2) 3 1 (.slice (some ⟨w.heap.size + 2, 0, none⟩) 0 0) (L 0).length (irow (L 0))) := by rw [Hid, HL0.out]; exact OW
  have HJ1 : Hid (w.heap.size + 2 ≤ v1.heap.size) := hjs
  clear B N D OW hjs
  go_wp2_with fail
  go_loopw [9, 10] (fun s9 i wr => ∃ (q : Nat), q ≤ n ∧ i = .int .i64 q ∧ wr.ownsRow (w.heap.size + 2) 3 1 s9 (L q).length (irow (L q)) ∧ w.heap.size + 2 ≤ wr.heap.size ∧ Below (w.heap.size + 2) v1 wr) (fun _ i _ => n - (intOf i).toNat)
  case atStart => exact ⟨0, Nat.zero_le _, rfl, HO1.out, HJ1.out, Below.refl _ _⟩
  case round =>
    clear HO1
    obtain ⟨q, hq, rfl, OW, hjs, BJ⟩ := hrel
    have B := HB1.out.trans (BJ.mono (by omega))
    by_cases hlt : q < n
    · have hli : (q : Int) < (n : Int) := by omega
      have HQ : Hid (q < n) := hlt
      obtain ⟨x0, x1, hM⟩ := tupIval M q
      obtain ⟨b, off, rfl, hf⟩ : ∃ b off, a = some ⟨b, off, none⟩ ∧ Cs w b off (n * 2) (MFIval M) := by
        rcases HS.out with r | r
        · exact absurd r (by omega)
        · exact r
      have hf' := hf.below B hf.1
      have hbb := hf'.1
      have hbw := hf.1
      obtain ⟨c0, c1⟩ := hf'.elIval hlt hM
      have h0 := HAT.out q hlt
      rw [hM] at h0
      have hP := HPP.out q
      rw [hM] at hP
      have hY := HY.out q
      rw [hM] at hY
      have N := HN1.out.belowB BJ (by omega)
      have D := HD1.out.belowB BJ (by omega)
      have HPB : Hid (SrcC wr p (m * 2) (MFSlot PM)) := HP.out.below B
      have hlen := HLN.out q
      have HX1 := HX.out q
      clear HAT HPP HY HX HLN hf hf' hM hlt hq HS B HP HB1
      by_cases h2 : c < x1
      · have HE : Hid (L (q + 1) = L q) := HX1 (by rw [hP, decide_eq_false (show ¬ x1 ≤ c by omega)]; rfl)
        have HO9 : Hid (wr.ownsRow (w.heap.size + 2) 3 1 u9 (L q).length (irow (L q))) := OW
        clear hP hY HX1 N D HPB OW h0 hlen CL0
        go_wp2_with fail
        go_roundw
        case rel => exact ⟨q + 1, HQ.out, by go_num, by rw [HE.out]; exact HO9.out, hjs, BJ⟩
        case measure => have hlt' := HQ.out; simp [intOf]; omega
      have h2' : decide (x1 ≤ c) = true := decide_eq_true (by omega)
      rw [h2', Bool.true_and] at hP
      obtain ⟨hw, hx⟩ := sub_w h0 (show x1 ≤ c by omega) hc.2
      have CL := CL0.out (c - x1)
      clear h2' h0 CL0
      cases h3 : lsB nu de (c - x1)
      · have HE : Hid (L (q + 1) = L q) := HX1 (by rw [hP, h3]; rfl)
        rw [h3] at CL
        clear hP hY HX1 h3
        have SK : Hid (∀ w', Below wr.heap.size wr w' → ((fun w' => w'.cell? ⟨w.heap.size + 1, 0, none⟩ = some (.int .i64 nu) ∧ w'.cell? ⟨w.heap.size + 1, 1, none⟩ = some (.int .i64 de) ∧ w'.cell? ⟨b, off + q * 2 + 1, none⟩ = some (.int .i64 x1))) w') := fun w' hw => ⟨(D.below hw).2.1, (D.below hw).2.2.1, (by rw [hw.cell (p := ⟨b, off + q * 2 + 1, none⟩) hbb]; exact c1)⟩
        go_upto_region 8 with fail
        refine wp_region_held_drew (S := (fun w' => w'.cell? ⟨w.heap.size + 1, 0, none⟩ = some (.int .i64 nu) ∧ w'.cell? ⟨w.heap.size + 1, 1, none⟩ = some (.int .i64 de) ∧ w'.cell? ⟨b, off + q * 2 + 1, none⟩ = some (.int .i64 x1))) (by kernel_rfl) ?_ (fun hHeld => ?_)
        · first | exact SK.out _ XB | exact SK.out _ (Below.drew (Below.refl _ _))
        have XB : Below wr.heap.size wr wr.drew := Below.drew (Below.refl _ _)
        generalize wr.drew = vx at *
        refine wpAnyH_take (i := 0) (v := ?_) (by rw [List.getElem?_toArray]; rfl) (by kernel_rfl) (by kernel_rfl) (by kernel_rfl) (by intro _ _ _ h; exact h) (Or.inl ⟨by rfl, ?_⟩) (by assumption) ?_
        rotate_left
        · (intro w hSw; (try dsimp only at hSw); go_simp; all_goals with_reducible rfl)
        (try simp only [Act.put, List.setIfInBounds_toArray, List.set_cons_zero, List.set_cons_succ])
        refine wpAnyH_take (i := 1) (v := ?_) (by rw [List.getElem?_toArray]; rfl) (by kernel_rfl) (by kernel_rfl) (by kernel_rfl) (by intro _ _ _ h; exact h) (Or.inl ⟨by rfl, ?_⟩) (by assumption) ?_
        rotate_left
        · (intro w hSw; (try dsimp only at hSw); go_simp; all_goals with_reducible rfl)
        (try simp only [Act.put, List.setIfInBounds_toArray, List.set_cons_zero, List.set_cons_succ])
        refine wpAnyH_take (i := 2) (v := ?_) (by rw [List.getElem?_toArray]; rfl) (by kernel_rfl) (by kernel_rfl) (by kernel_rfl) (by intro _ _ _ h; exact h) (Or.inl ⟨by rfl, ?_⟩) (by assumption) ?_
        rotate_left
        · (intro w hSw; (try dsimp only at hSw); go_simp; all_goals with_reducible rfl)
        (try simp only [Act.put, List.setIfInBounds_toArray, List.set_cons_zero, List.set_cons_succ])
        refine wpAnyH_take (i := 3) (v := ?_) (by rw [List.getElem?_toArray]; rfl) (by kernel_rfl) (by kernel_rfl) (by kernel_rfl) (by intro _ _ _ h; exact h) (Or.inl ⟨by rfl, ?_⟩) (by assumption) ?_
        rotate_left
        · (intro w hSw; (try dsimp only at hSw); go_simp; all_goals with_reducible rfl)
        (try simp only [Act.put, List.setIfInBounds_toArray, List.set_cons_zero, List.set_cons_succ])
        refine wpAnyH_take (i := 4) (v := ?_) (by rw [List.getElem?_toArray]; rfl) (by kernel_rfl) (by kernel_rfl) (by kernel_rfl) (by intro _ _ _ h; exact h) (Or.inl ⟨by rfl, ?_⟩) (by assumption) ?_
        rotate_left
        · (intro w hSw; (try dsimp only at hSw); go_simp; all_goals with_reducible rfl)
        (try simp only [Act.put, List.setIfInBounds_toArray, List.set_cons_zero, List.set_cons_succ])
        refine wpAnyH_take (i := 5) (v := ?_) (by rw [List.getElem?_toArray]; rfl) (by kernel_rfl) (by kernel_rfl) (by kernel_rfl) (by intro _ _ _ h; exact h) (Or.inl ⟨by rfl, ?_⟩) (by assumption) ?_
        rotate_left
        · (intro w hSw; (try dsimp only at hSw); go_simp; all_goals with_reducible rfl)
        (try simp only [Act.put, List.setIfInBounds_toArray, List.set_cons_zero, List.set_cons_succ])
        refine wpAnyH_take (i := 6) (v := ?_) (by rw [List.getElem?_toArray]; rfl) (by kernel_rfl) (by kernel_rfl) (by kernel_rfl) (by intro _ _ _ h; exact h) (Or.inl ⟨by rfl, ?_⟩) (by assumption) ?_
        rotate_left
        · (intro w hSw; (try dsimp only at hSw); go_simp; all_goals with_reducible rfl)
        (try simp only [Act.put, List.setIfInBounds_toArray, List.set_cons_zero, List.set_cons_succ])
        refine wpAnyH_take (i := 7) (v := ?_) (by rw [List.getElem?_toArray]; rfl) (by kernel_rfl) (by kernel_rfl) (by kernel_rfl) (by intro _ _ _ h; exact h) (Or.inl ⟨by rfl, ?_⟩) (by assumption) ?_
        rotate_left
        · (intro w hSw; (try dsimp only at hSw); go_simp; all_goals with_reducible rfl)
        (try simp only [Act.put, List.setIfInBounds_toArray, List.set_cons_zero, List.set_cons_succ])
        (try simp only [hw, hx])
        refine wpAnyH_ready (rs := [8]) (by kernel_rfl) (by simp) ?_
        refine AllReadyH.cons (by rw [List.getElem?_toArray]; rfl) (fun K hK => ?_) AllReadyH.nil
        go_simp
        refine (CL vx).mono ?_; rintro ee vx ⟨rfl, hbl⟩; (replace XB := XB.trans (hbl.mono XB.size)); (clear hbl)
        (try go_wp2_with fail)
        refine hK.out _ _ ?_ (fun hHeld => ?_)
        · first | exact SK.out _ XB | exact SK.out _ (Below.drew (Below.refl _ _))
        clear hK K
        (try simp only [Act.put, List.setIfInBounds_toArray, List.set_cons_zero, List.set_cons_succ])
        refine wpAnyH_take (i := 9) (v := ?_) (by rw [List.getElem?_toArray]; rfl) (by kernel_rfl) (by kernel_rfl) (by kernel_rfl) (by intro _ _ _ h; exact h) (Or.inl ⟨by rfl, ?_⟩) (by assumption) ?_
        rotate_left
        · (intro w hSw; (try dsimp only at hSw); go_simp; all_goals with_reducible rfl)
        (try simp only [Act.put, List.setIfInBounds_toArray, List.set_cons_zero, List.set_cons_succ])
        refine wpAnyH_take (i := 10) (v := ?_) (by rw [List.getElem?_toArray]; rfl) (by kernel_rfl) (by kernel_rfl) (by kernel_rfl) (by intro _ _ _ h; exact h) (Or.inl ⟨by rfl, ?_⟩) (by assumption) ?_
        rotate_left
        · (intro w hSw; (try dsimp only at hSw); go_simp; all_goals with_reducible rfl)
        (try simp only [Act.put, List.setIfInBounds_toArray, List.set_cons_zero, List.set_cons_succ])
        refine wpAnyH_take (i := 11) (v := ?_) (by rw [List.getElem?_toArray]; rfl) (by kernel_rfl) (by kernel_rfl) (by kernel_rfl) (by intro _ _ _ h; exact h) (Or.inl ⟨by rfl, ?_⟩) (by assumption) ?_
        rotate_left
        · (intro w hSw; (try dsimp only at hSw); go_simp; all_goals with_reducible rfl)
        (try simp only [Act.put, List.setIfInBounds_toArray, List.set_cons_zero, List.set_cons_succ])
        refine wpAnyH_take (i := 12) (v := ?_) (by rw [List.getElem?_toArray]; rfl) (by kernel_rfl) (by kernel_rfl) (by kernel_rfl) (by intro _ _ _ h; exact h) (Or.inl ⟨by rfl, ?_⟩) (by assumption) ?_
        rotate_left
        · (intro w hSw; (try dsimp only at hSw); go_simp; all_goals with_reducible rfl)
        (try simp only [Act.put, List.setIfInBounds_toArray, List.set_cons_zero, List.set_cons_succ])
        refine wpAnyH_take (i := 13) (v := ?_) (by rw [List.getElem?_toArray]; rfl) (by kernel_rfl) (by kernel_rfl) (by kernel_rfl) (by intro _ _ _ h; exact h) (Or.inl ⟨by rfl, ?_⟩) (by assumption) ?_
        rotate_left
        · (intro w hSw; (try dsimp only at hSw); go_simp; all_goals with_reducible rfl)
        (try simp only [Act.put, List.setIfInBounds_toArray, List.set_cons_zero, List.set_cons_succ])
        refine wpAnyH_done (by kernel_rfl) ?_ _
        clear SK
        have hb := XB
        replace OW := own_belK' OW hb
        replace BJ := BJ.trans (hb.mono hjs)
        replace hjs := Nat.le_trans hjs hb.size
        clear hb
        have HO9 : Hid (vx.ownsRow (w.heap.size + 2) 3 1 u9 (L q).length (irow (L q))) := OW
        clear OW N D XB
        go_wp2_with fail
        go_roundw
        case rel => exact ⟨q + 1, HQ.out, by go_num, by rw [HE.out]; exact HO9.out, hjs, BJ⟩
        case measure => have hlt' := HQ.out; simp [intOf]; omega
      rw [h3] at CL
      rw [h3, Bool.true_and] at hP
      by_cases h4 : lsT nu de (c - x1) ≤ rnI s g PM m
      · have HE : Hid (L (q + 1) = L q ++ [x0]) := hY (by rw [hP, decide_eq_true h4])
        clear hP hY HX1 h3
        generalize lsT nu de (c - x1) = T at *
        generalize rnI s g PM m = R at *
        have SK : Hid (∀ w', Below wr.heap.size wr w' → ((fun w' => w'.cell? ⟨w.heap.size + 1, 0, none⟩ = some (.int .i64 nu) ∧ w'.cell? ⟨w.heap.size + 1, 1, none⟩ = some (.int .i64 de) ∧ w'.cell? ⟨b, off + q * 2 + 1, none⟩ = some (.int .i64 x1))) w') := fun w' hw => ⟨(D.below hw).2.1, (D.below hw).2.2.1, (by rw [hw.cell (p := ⟨b, off + q * 2 + 1, none⟩) hbb]; exact c1)⟩
        go_upto_region 8 with fail
        refine wp_region_held_drew (S := (fun w' => w'.cell? ⟨w.heap.size + 1, 0, none⟩ = some (.int .i64 nu) ∧ w'.cell? ⟨w.heap.size + 1, 1, none⟩ = some (.int .i64 de) ∧ w'.cell? ⟨b, off + q * 2 + 1, none⟩ = some (.int .i64 x1))) (by kernel_rfl) ?_ (fun hHeld => ?_)
        · first | exact SK.out _ XB | exact SK.out _ (Below.drew (Below.refl _ _))
        have XB : Below wr.heap.size wr wr.drew := Below.drew (Below.refl _ _)
        generalize wr.drew = vx at *
        refine wpAnyH_take (i := 0) (v := ?_) (by rw [List.getElem?_toArray]; rfl) (by kernel_rfl) (by kernel_rfl) (by kernel_rfl) (by intro _ _ _ h; exact h) (Or.inl ⟨by rfl, ?_⟩) (by assumption) ?_
        rotate_left
        · (intro w hSw; (try dsimp only at hSw); go_simp; all_goals with_reducible rfl)
        (try simp only [Act.put, List.setIfInBounds_toArray, List.set_cons_zero, List.set_cons_succ])
        refine wpAnyH_take (i := 1) (v := ?_) (by rw [List.getElem?_toArray]; rfl) (by kernel_rfl) (by kernel_rfl) (by kernel_rfl) (by intro _ _ _ h; exact h) (Or.inl ⟨by rfl, ?_⟩) (by assumption) ?_
        rotate_left
        · (intro w hSw; (try dsimp only at hSw); go_simp; all_goals with_reducible rfl)
        (try simp only [Act.put, List.setIfInBounds_toArray, List.set_cons_zero, List.set_cons_succ])
        refine wpAnyH_take (i := 2) (v := ?_) (by rw [List.getElem?_toArray]; rfl) (by kernel_rfl) (by kernel_rfl) (by kernel_rfl) (by intro _ _ _ h; exact h) (Or.inl ⟨by rfl, ?_⟩) (by assumption) ?_
        rotate_left
        · (intro w hSw; (try dsimp only at hSw); go_simp; all_goals with_reducible rfl)
        (try simp only [Act.put, List.setIfInBounds_toArray, List.set_cons_zero, List.set_cons_succ])
        refine wpAnyH_take (i := 3) (v := ?_) (by rw [List.getElem?_toArray]; rfl) (by kernel_rfl) (by kernel_rfl) (by kernel_rfl) (by intro _ _ _ h; exact h) (Or.inl ⟨by rfl, ?_⟩) (by assumption) ?_
        rotate_left
        · (intro w hSw; (try dsimp only at hSw); go_simp; all_goals with_reducible rfl)
        (try simp only [Act.put, List.setIfInBounds_toArray, List.set_cons_zero, List.set_cons_succ])
        refine wpAnyH_take (i := 4) (v := ?_) (by rw [List.getElem?_toArray]; rfl) (by kernel_rfl) (by kernel_rfl) (by kernel_rfl) (by intro _ _ _ h; exact h) (Or.inl ⟨by rfl, ?_⟩) (by assumption) ?_
        rotate_left
        · (intro w hSw; (try dsimp only at hSw); go_simp; all_goals with_reducible rfl)
        (try simp only [Act.put, List.setIfInBounds_toArray, List.set_cons_zero, List.set_cons_succ])
        refine wpAnyH_take (i := 5) (v := ?_) (by rw [List.getElem?_toArray]; rfl) (by kernel_rfl) (by kernel_rfl) (by kernel_rfl) (by intro _ _ _ h; exact h) (Or.inl ⟨by rfl, ?_⟩) (by assumption) ?_
        rotate_left
        · (intro w hSw; (try dsimp only at hSw); go_simp; all_goals with_reducible rfl)
        (try simp only [Act.put, List.setIfInBounds_toArray, List.set_cons_zero, List.set_cons_succ])
        refine wpAnyH_take (i := 6) (v := ?_) (by rw [List.getElem?_toArray]; rfl) (by kernel_rfl) (by kernel_rfl) (by kernel_rfl) (by intro _ _ _ h; exact h) (Or.inl ⟨by rfl, ?_⟩) (by assumption) ?_
        rotate_left
        · (intro w hSw; (try dsimp only at hSw); go_simp; all_goals with_reducible rfl)
        (try simp only [Act.put, List.setIfInBounds_toArray, List.set_cons_zero, List.set_cons_succ])
        refine wpAnyH_take (i := 7) (v := ?_) (by rw [List.getElem?_toArray]; rfl) (by kernel_rfl) (by kernel_rfl) (by kernel_rfl) (by intro _ _ _ h; exact h) (Or.inl ⟨by rfl, ?_⟩) (by assumption) ?_
        rotate_left
        · (intro w hSw; (try dsimp only at hSw); go_simp; all_goals with_reducible rfl)
        (try simp only [Act.put, List.setIfInBounds_toArray, List.set_cons_zero, List.set_cons_succ])
        (try simp only [hw, hx])
        refine wpAnyH_ready (rs := [8]) (by kernel_rfl) (by simp) ?_
        refine AllReadyH.cons (by rw [List.getElem?_toArray]; rfl) (fun K hK => ?_) AllReadyH.nil
        go_simp
        refine (CL vx).mono ?_; rintro ee vx ⟨rfl, hbl⟩; (replace XB := XB.trans (hbl.mono XB.size)); (clear hbl)
        (try go_wp2_with fail)
        refine hK.out _ _ ?_ (fun hHeld => ?_)
        · first | exact SK.out _ XB | exact SK.out _ (Below.drew (Below.refl _ _))
        clear hK K
        (try simp only [Act.put, List.setIfInBounds_toArray, List.set_cons_zero, List.set_cons_succ])
        refine wpAnyH_take (i := 9) (v := ?_) (by rw [List.getElem?_toArray]; rfl) (by kernel_rfl) (by kernel_rfl) (by kernel_rfl) (by intro _ _ _ h; exact h) (Or.inl ⟨by rfl, ?_⟩) (by assumption) ?_
        rotate_left
        · (intro w hSw; (try dsimp only at hSw); go_simp; all_goals with_reducible rfl)
        (try simp only [Act.put, List.setIfInBounds_toArray, List.set_cons_zero, List.set_cons_succ])
        refine wpAnyH_take (i := 10) (v := ?_) (by rw [List.getElem?_toArray]; rfl) (by kernel_rfl) (by kernel_rfl) (by kernel_rfl) (by intro _ _ _ h; exact h) (Or.inl ⟨by rfl, ?_⟩) (by assumption) ?_
        rotate_left
        · (intro w hSw; (try dsimp only at hSw); go_simp; all_goals with_reducible rfl)
        (try simp only [Act.put, List.setIfInBounds_toArray, List.set_cons_zero, List.set_cons_succ])
        refine wpAnyH_take (i := 11) (v := ?_) (by rw [List.getElem?_toArray]; rfl) (by kernel_rfl) (by kernel_rfl) (by kernel_rfl) (by intro _ _ _ h; exact h) (Or.inl ⟨by rfl, ?_⟩) (by assumption) ?_
        rotate_left
        · (intro w hSw; (try dsimp only at hSw); go_simp; all_goals with_reducible rfl)
        (try simp only [Act.put, List.setIfInBounds_toArray, List.set_cons_zero, List.set_cons_succ])
        refine wpAnyH_take (i := 12) (v := ?_) (by rw [List.getElem?_toArray]; rfl) (by kernel_rfl) (by kernel_rfl) (by kernel_rfl) (by intro _ _ _ h; exact h) (Or.inl ⟨by rfl, ?_⟩) (by assumption) ?_
        rotate_left
        · (intro w hSw; (try dsimp only at hSw); go_simp; all_goals with_reducible rfl)
        (try simp only [Act.put, List.setIfInBounds_toArray, List.set_cons_zero, List.set_cons_succ])
        refine wpAnyH_take (i := 13) (v := ?_) (by rw [List.getElem?_toArray]; rfl) (by kernel_rfl) (by kernel_rfl) (by kernel_rfl) (by intro _ _ _ h; exact h) (Or.inl ⟨by rfl, ?_⟩) (by assumption) ?_
        rotate_left
        · (intro w hSw; (try dsimp only at hSw); go_simp; all_goals with_reducible rfl)
        (try simp only [Act.put, List.setIfInBounds_toArray, List.set_cons_zero, List.set_cons_succ])
        refine wpAnyH_done (by kernel_rfl) ?_ _
        clear SK
        replace N := N.below XB
        replace HPB : Hid (SrcC vx p (m * 2) (MFSlot PM)) := HPB.out.below XB
        have hb := XB
        replace OW := own_belK' OW hb
        replace BJ := BJ.trans (hb.mono hjs)
        replace hjs := Nat.le_trans hjs hb.size
        clear hb
        have hbx : b < vx.heap.size := Nat.lt_of_lt_of_le hbb XB.size
        have c0' : vx.cell? ⟨b, off + q * 2, none⟩ = some (.int .i64 x0) := by rw [XB.cell (p := ⟨b, off + q * 2, none⟩) hbb]; exact c0
        clear XB D c0 c1 CL
        obtain ⟨n0, n1, n2, n3, n4, n5, n6⟩ := id N
        go_wp2_with fail
        refine (C2 _ HPB.out).mono ?_
        rintro e v3 ⟨rfl, hb⟩
        clear n0 n1 n2 n3 n4 n5 n6
        replace c0' : v3.cell? ⟨b, off + q * 2, none⟩ = some (.int .i64 x0) := by rw [hb.cell (p := ⟨b, off + q * 2, none⟩) hbx]; exact c0'
        replace OW := own_belK' OW hb
        replace BJ := BJ.trans (hb.mono hjs)
        replace hjs := Nat.le_trans hjs hb.size
        clear hb
        clear N HPB
        have hlen' : (L q).length ≤ 64 := by omega
        go_upto_region 6 with (at_builtin; refine add_int rfl _ _ rfl (w.heap.size + 2) (L q) _ rfl OW rfl hlen' hjs ?_; intro v' w9 O9 hg9 hn9)
        have HO9 : Hid (w9.ownsRow (w.heap.size + 2) 3 1 v' (L q ++ [x0]).length (irow (L q ++ [x0]))) := O9
        replace BJ := BJ.trans (grown_belowK OW hg9 hjs)
        replace hjs : w.heap.size + 2 ≤ w9.heap.size := Nat.le_trans hjs hg9.size
        clear O9 OW hg9 hn9 c0'
        go_wp2_with fail
        go_roundw
        case rel => exact ⟨q + 1, HQ.out, by go_num, by rw [HE.out]; exact HO9.out, hjs, BJ⟩
        case measure => have hlt' := HQ.out; simp [intOf]; omega
      · have HE : Hid (L (q + 1) = L q) := HX1 (by rw [hP, decide_eq_false h4])
        clear hP hY HX1 h3
        generalize lsT nu de (c - x1) = T at *
        generalize rnI s g PM m = R at *
        have SK : Hid (∀ w', Below wr.heap.size wr w' → ((fun w' => w'.cell? ⟨w.heap.size + 1, 0, none⟩ = some (.int .i64 nu) ∧ w'.cell? ⟨w.heap.size + 1, 1, none⟩ = some (.int .i64 de) ∧ w'.cell? ⟨b, off + q * 2 + 1, none⟩ = some (.int .i64 x1))) w') := fun w' hw => ⟨(D.below hw).2.1, (D.below hw).2.2.1, (by rw [hw.cell (p := ⟨b, off + q * 2 + 1, none⟩) hbb]; exact c1)⟩
        go_upto_region 8 with fail
        refine wp_region_held_drew (S := (fun w' => w'.cell? ⟨w.heap.size + 1, 0, none⟩ = some (.int .i64 nu) ∧ w'.cell? ⟨w.heap.size + 1, 1, none⟩ = some (.int .i64 de) ∧ w'.cell? ⟨b, off + q * 2 + 1, none⟩ = some (.int .i64 x1))) (by kernel_rfl) ?_ (fun hHeld => ?_)
        · first | exact SK.out _ XB | exact SK.out _ (Below.drew (Below.refl _ _))
        have XB : Below wr.heap.size wr wr.drew := Below.drew (Below.refl _ _)
        generalize wr.drew = vx at *
        refine wpAnyH_take (i := 0) (v := ?_) (by rw [List.getElem?_toArray]; rfl) (by kernel_rfl) (by kernel_rfl) (by kernel_rfl) (by intro _ _ _ h; exact h) (Or.inl ⟨by rfl, ?_⟩) (by assumption) ?_
        rotate_left
        · (intro w hSw; (try dsimp only at hSw); go_simp; all_goals with_reducible rfl)
        (try simp only [Act.put, List.setIfInBounds_toArray, List.set_cons_zero, List.set_cons_succ])
        refine wpAnyH_take (i := 1) (v := ?_) (by rw [List.getElem?_toArray]; rfl) (by kernel_rfl) (by kernel_rfl) (by kernel_rfl) (by intro _ _ _ h; exact h) (Or.inl ⟨by rfl, ?_⟩) (by assumption) ?_
        rotate_left
        · (intro w hSw; (try dsimp only at hSw); go_simp; all_goals with_reducible rfl)
        (try simp only [Act.put, List.setIfInBounds_toArray, List.set_cons_zero, List.set_cons_succ])
        refine wpAnyH_take (i := 2) (v := ?_) (by rw [List.getElem?_toArray]; rfl) (by kernel_rfl) (by kernel_rfl) (by kernel_rfl) (by intro _ _ _ h; exact h) (Or.inl ⟨by rfl, ?_⟩) (by assumption) ?_
        rotate_left
        · (intro w hSw; (try dsimp only at hSw); go_simp; all_goals with_reducible rfl)
        (try simp only [Act.put, List.setIfInBounds_toArray, List.set_cons_zero, List.set_cons_succ])
        refine wpAnyH_take (i := 3) (v := ?_) (by rw [List.getElem?_toArray]; rfl) (by kernel_rfl) (by kernel_rfl) (by kernel_rfl) (by intro _ _ _ h; exact h) (Or.inl ⟨by rfl, ?_⟩) (by assumption) ?_
        rotate_left
        · (intro w hSw; (try dsimp only at hSw); go_simp; all_goals with_reducible rfl)
        (try simp only [Act.put, List.setIfInBounds_toArray, List.set_cons_zero, List.set_cons_succ])
        refine wpAnyH_take (i := 4) (v := ?_) (by rw [List.getElem?_toArray]; rfl) (by kernel_rfl) (by kernel_rfl) (by kernel_rfl) (by intro _ _ _ h; exact h) (Or.inl ⟨by rfl, ?_⟩) (by assumption) ?_
        rotate_left
        · (intro w hSw; (try dsimp only at hSw); go_simp; all_goals with_reducible rfl)
        (try simp only [Act.put, List.setIfInBounds_toArray, List.set_cons_zero, List.set_cons_succ])
        refine wpAnyH_take (i := 5) (v := ?_) (by rw [List.getElem?_toArray]; rfl) (by kernel_rfl) (by kernel_rfl) (by kernel_rfl) (by intro _ _ _ h; exact h) (Or.inl ⟨by rfl, ?_⟩) (by assumption) ?_
        rotate_left
        · (intro w hSw; (try dsimp only at hSw); go_simp; all_goals with_reducible rfl)
        (try simp only [Act.put, List.setIfInBounds_toArray, List.set_cons_zero, List.set_cons_succ])
        refine wpAnyH_take (i := 6) (v := ?_) (by rw [List.getElem?_toArray]; rfl) (by kernel_rfl) (by kernel_rfl) (by kernel_rfl) (by intro _ _ _ h; exact h) (Or.inl ⟨by rfl, ?_⟩) (by assumption) ?_
        rotate_left
        · (intro w hSw; (try dsimp only at hSw); go_simp; all_goals with_reducible rfl)
        (try simp only [Act.put, List.setIfInBounds_toArray, List.set_cons_zero, List.set_cons_succ])
        refine wpAnyH_take (i := 7) (v := ?_) (by rw [List.getElem?_toArray]; rfl) (by kernel_rfl) (by kernel_rfl) (by kernel_rfl) (by intro _ _ _ h; exact h) (Or.inl ⟨by rfl, ?_⟩) (by assumption) ?_
        rotate_left
        · (intro w hSw; (try dsimp only at hSw); go_simp; all_goals with_reducible rfl)
        (try simp only [Act.put, List.setIfInBounds_toArray, List.set_cons_zero, List.set_cons_succ])
        (try simp only [hw, hx])
        refine wpAnyH_ready (rs := [8]) (by kernel_rfl) (by simp) ?_
        refine AllReadyH.cons (by rw [List.getElem?_toArray]; rfl) (fun K hK => ?_) AllReadyH.nil
        go_simp
        refine (CL vx).mono ?_; rintro ee vx ⟨rfl, hbl⟩; (replace XB := XB.trans (hbl.mono XB.size)); (clear hbl)
        (try go_wp2_with fail)
        refine hK.out _ _ ?_ (fun hHeld => ?_)
        · first | exact SK.out _ XB | exact SK.out _ (Below.drew (Below.refl _ _))
        clear hK K
        (try simp only [Act.put, List.setIfInBounds_toArray, List.set_cons_zero, List.set_cons_succ])
        refine wpAnyH_take (i := 9) (v := ?_) (by rw [List.getElem?_toArray]; rfl) (by kernel_rfl) (by kernel_rfl) (by kernel_rfl) (by intro _ _ _ h; exact h) (Or.inl ⟨by rfl, ?_⟩) (by assumption) ?_
        rotate_left
        · (intro w hSw; (try dsimp only at hSw); go_simp; all_goals with_reducible rfl)
        (try simp only [Act.put, List.setIfInBounds_toArray, List.set_cons_zero, List.set_cons_succ])
        refine wpAnyH_take (i := 10) (v := ?_) (by rw [List.getElem?_toArray]; rfl) (by kernel_rfl) (by kernel_rfl) (by kernel_rfl) (by intro _ _ _ h; exact h) (Or.inl ⟨by rfl, ?_⟩) (by assumption) ?_
        rotate_left
        · (intro w hSw; (try dsimp only at hSw); go_simp; all_goals with_reducible rfl)
        (try simp only [Act.put, List.setIfInBounds_toArray, List.set_cons_zero, List.set_cons_succ])
        refine wpAnyH_take (i := 11) (v := ?_) (by rw [List.getElem?_toArray]; rfl) (by kernel_rfl) (by kernel_rfl) (by kernel_rfl) (by intro _ _ _ h; exact h) (Or.inl ⟨by rfl, ?_⟩) (by assumption) ?_
        rotate_left
        · (intro w hSw; (try dsimp only at hSw); go_simp; all_goals with_reducible rfl)
        (try simp only [Act.put, List.setIfInBounds_toArray, List.set_cons_zero, List.set_cons_succ])
        refine wpAnyH_take (i := 12) (v := ?_) (by rw [List.getElem?_toArray]; rfl) (by kernel_rfl) (by kernel_rfl) (by kernel_rfl) (by intro _ _ _ h; exact h) (Or.inl ⟨by rfl, ?_⟩) (by assumption) ?_
        rotate_left
        · (intro w hSw; (try dsimp only at hSw); go_simp; all_goals with_reducible rfl)
        (try simp only [Act.put, List.setIfInBounds_toArray, List.set_cons_zero, List.set_cons_succ])
        refine wpAnyH_take (i := 13) (v := ?_) (by rw [List.getElem?_toArray]; rfl) (by kernel_rfl) (by kernel_rfl) (by kernel_rfl) (by intro _ _ _ h; exact h) (Or.inl ⟨by rfl, ?_⟩) (by assumption) ?_
        rotate_left
        · (intro w hSw; (try dsimp only at hSw); go_simp; all_goals with_reducible rfl)
        (try simp only [Act.put, List.setIfInBounds_toArray, List.set_cons_zero, List.set_cons_succ])
        refine wpAnyH_done (by kernel_rfl) ?_ _
        clear SK
        replace N := N.below XB
        replace HPB : Hid (SrcC vx p (m * 2) (MFSlot PM)) := HPB.out.below XB
        have hb := XB
        replace OW := own_belK' OW hb
        replace BJ := BJ.trans (hb.mono hjs)
        replace hjs := Nat.le_trans hjs hb.size
        clear hb
        clear XB D c0 c1 CL
        obtain ⟨n0, n1, n2, n3, n4, n5, n6⟩ := id N
        go_wp2_with fail
        refine (C2 _ HPB.out).mono ?_
        rintro e v3 ⟨rfl, hb⟩
        clear n0 n1 n2 n3 n4 n5 n6
        replace OW := own_belK' OW hb
        replace BJ := BJ.trans (hb.mono hjs)
        replace hjs := Nat.le_trans hjs hb.size
        clear hb
        clear N HPB
        have HO9 : Hid (v3.ownsRow (w.heap.size + 2) 3 1 u9 (L q).length (irow (L q))) := OW
        clear OW
        go_wp2_with fail
        go_roundw
        case rel => exact ⟨q + 1, HQ.out, by go_num, by rw [HE.out]; exact HO9.out, hjs, BJ⟩
        case measure => have hlt' := HQ.out; simp [intOf]; omega
    · have hkn : q = n := by omega
      subst hkn
      have hli : ¬ (q : Int) < (q : Int) := by omega
      clear HAT HPP HY HX HLN HS HP
      go_wp2_with fail
      go_ret
      exact ⟨_, rfl, own_baseI16 OW (Nat.le_add_right w.heap.size 2), B⟩
end Go.Proofs.YtdahabbdhjgpdaaDoor
