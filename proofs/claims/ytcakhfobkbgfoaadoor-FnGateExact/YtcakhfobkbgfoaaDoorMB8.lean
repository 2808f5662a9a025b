/- The draw of a time; what DrawNextOwn leaves. What the draws of a local interval, its drift and a count leave. -/
import Derived.Test.YtcakhfobkbgfoaaDoorMB7
import Derived.Test.YtcakhfobkbgfoaaDoorMB4
import Derived.Deep.RegionHeld3
import Derived.WalkKit
import Derived.WalkSpells
import Derived.WalkLawsBesides
import Derived.Deep.RegionHeld
import Derived.Test.YtcakhfobkbgfoaaDoorMB6
import Derived.Test.YtcakhfobkbgfoaaDoorMB2
namespace Go.Proofs.YtcakhfobkbgfoaaDoor
open Go.RowKit
set_option linter.unusedVariables false
theorem pick5 (B p : Nat) (w : World) (a b c d e : Int) (hcur : CurOk w B p) :
    Calls Tryd.prog 44 #[.pointer (some ⟨p, 0, none⟩), .slice (some ⟨w.heap.size, 0, none⟩) 5 5] (w.alloc (.cells #[.int .i64 a, .int .i64 b, .int .i64 c, .int .i64 d, .int .i64 e] 3)) fun e w' => ∃ v : Int, e = .returned (.int .i64 v) ∧ CurOk w' B p ∧ But p w w' := by
  have h := pickLit B p w [a, b, c, d, e] hcur (by simp) (by simp)
  simp only [List.map_cons, List.map_nil, List.length_cons, List.length_nil, Nat.zero_add, Nat.reduceAdd] at h
  exact h
set_option maxRecDepth 100000 in
set_option maxHeartbeats 16000000 in
theorem l13DrawTime_any (B p base : Nat) (s g : Int) (A : Option Addr) (n c : Nat) (M : Nat → SlT) (w : World) (hcur : CurOk w B p) (hn13 : n ≤ 13) (hpo : p < base) (hown : w.ownsRow base 42 2 (.slice A n c) n (srow M n)) :
    Calls Tryd.prog 39 #[.pointer (some ⟨p, 0, none⟩), .agg #[.int .i64 s, .int .i64 g, .slice A n c]] w fun e w' => ∃ x : Int, e = .returned (.int .i64 x) ∧ CurOk w' B p ∧ But p w w' := by
  have hmn : n ≤ maxLen := by unfold maxLen; omega
  have nl := Below.nw w (.cells #[.int .i64 s, .int .i64 g, .slice A n c] 30)
  have N := Tx3.new w (.int .i64 s) (.int .i64 g) (.slice A n c) 30
  have hnp : w.heap.size ≠ p := Nat.ne_of_gt hcur.lt.1
  have cc := hcur.below nl
  have OW := own_belK' hown nl
  have bb : But p w _ := But.of_below nl
  clear nl hcur hown
  go_enter Tryd.func39, Tryd.ntmps39
  go_upto_region 1 with fail
  generalize w.alloc (.cells #[.int .i64 s, .int .i64 g, .slice A n c] 30) = v at *
  (obtain ⟨n0, n1, n2, n3, n4, n5, n6⟩ := id N)
  go_cut [5, 6] (fun s5 s6 wx => ∃ (jz : Nat) (X Y : Int) (Q : Bool), s5 = .pointer (some ⟨jz, 0, none⟩) ∧ s6 = .bool Q ∧ jz ≠ p ∧ Bx2 wx jz (.int .i64 X) (.int .i64 Y) ∧ CurOk wx B p ∧ But p w wx)
  case first => as_aux_lemma =>
    refine wp_region_held_drew (S := (fun w' => w'.cell? ⟨w.heap.size, 0, none⟩ = some (.int .i64 s) ∧ w'.cell? ⟨w.heap.size, 1, none⟩ = some (.int .i64 g) ∧ w'.cell? ⟨w.heap.size, 2, none⟩ = some (.slice A n c))) (by kernel_rfl) ?_ (fun hHeld => ?_)
    · exact ⟨n1, n2, n3⟩
    clear n0 n1 n2 n3 n4 n5 n6
    replace cc : CurOk v.drew B p := cc
    replace N := N.drew
    replace OW : v.drew.ownsRow base 42 2 (.slice A n c) n (srow M n) := OW
    replace bb : But p w v.drew := bb
    generalize v.drew = vx at *
    (obtain ⟨n0, n1, n2, n3, n4, n5, n6⟩ := id N)
    refine wpAnyH_take (i := 0) (v := ?_) (by rw [List.getElem?_toArray]; rfl) (by kernel_rfl) (by kernel_rfl) (by kernel_rfl) (by intro _ _ _ h; exact h) (Or.inl ⟨by rfl, ?_⟩) (by assumption) ?_
    rotate_left
    · (intro w hSw; (try dsimp only at hSw); go_simp; all_goals with_reducible rfl)
    (try simp only [Act.put, List.setIfInBounds_toArray, List.set_cons_zero, List.set_cons_succ])
    refine wpAnyH_take (i := 1) (v := ?_) (by rw [List.getElem?_toArray]; rfl) (by kernel_rfl) (by kernel_rfl) (by kernel_rfl) (by intro _ _ _ h; exact h) (Or.inl ⟨by rfl, ?_⟩) (by assumption) ?_
    rotate_left
    · (intro w hSw; (try dsimp only at hSw); go_simp; all_goals with_reducible rfl)
    (try simp only [Act.put, List.setIfInBounds_toArray, List.set_cons_zero, List.set_cons_succ])
    refine wpAnyH_take (i := 2) (v := ?_) (by rw [List.getElem?_toArray]; rfl) (by kernel_rfl) (by kernel_rfl) (by kernel_rfl) (by intro _ _ _ h; exact h) (Or.inl ⟨by rfl, ?_⟩) (by assumption) ?_
    rotate_left
    · (intro w hSw; (try dsimp only at hSw); go_simp; all_goals with_reducible rfl)
    (try simp only [Act.put, List.setIfInBounds_toArray, List.set_cons_zero, List.set_cons_succ])
    refine wpAnyH_take (i := 3) (v := ?_) (by rw [List.getElem?_toArray]; rfl) (by kernel_rfl) (by kernel_rfl) (by kernel_rfl) (by intro _ _ _ h; exact h) (Or.inl ⟨by rfl, ?_⟩) (by assumption) ?_
    rotate_left
    · (intro w hSw; (try dsimp only at hSw); go_simp; all_goals with_reducible rfl)
    (try simp only [Act.put, List.setIfInBounds_toArray, List.set_cons_zero, List.set_cons_succ])
    refine wpAnyH_take (i := 4) (v := ?_) (by rw [List.getElem?_toArray]; rfl) (by kernel_rfl) (by kernel_rfl) (by kernel_rfl) (by intro _ _ _ h; exact h) (Or.inl ⟨by rfl, ?_⟩) (by assumption) ?_
    rotate_left
    · (intro w hSw; (try dsimp only at hSw); go_simp; all_goals with_reducible rfl)
    (try simp only [Act.put, List.setIfInBounds_toArray, List.set_cons_zero, List.set_cons_succ])
    refine wpAnyH_take (i := 6) (v := ?_) (by rw [List.getElem?_toArray]; rfl) (by kernel_rfl) (by kernel_rfl) (by kernel_rfl) (by intro _ _ _ h; exact h) (Or.inl ⟨by rfl, ?_⟩) (by assumption) ?_
    rotate_left
    · (intro w hSw; (try dsimp only at hSw); go_simp; all_goals with_reducible rfl)
    (try simp only [Act.put, List.setIfInBounds_toArray, List.set_cons_zero, List.set_cons_succ])
    refine wpAnyH_ready (rs := [5, 12]) (by kernel_rfl) (by simp) ?_
    refine (AllReadyH.cons (by rw [List.getElem?_toArray]; rfl) (fun K hK => ?_) (AllReadyH.cons (by rw [List.getElem?_toArray]; rfl) (fun K hK => ?_) AllReadyH.nil))
    · go_simp
      refine (l1Below_any B p (n : Int) _ cc).mono ?_; rintro e vx ⟨x, rfl, _, _, _, _, nc, nb⟩; (clear n0 n1 n2 n3 n4 n5 n6); (replace cc := nc); (replace N := N.but nb hnp); (replace OW := own_butK OW nb hpo); (replace bb := bb.trans nb); (clear nc nb); (obtain ⟨n0, n1, n2, n3, n4, n5, n6⟩ := id N)
      (try go_wp2_with fail)
      refine hK.out _ _ ?_ (fun hHeld => ?_)
      · exact ⟨n1, n2, n3⟩
      clear hK K
      (try simp only [Act.put, List.setIfInBounds_toArray, List.set_cons_zero, List.set_cons_succ])
      refine wpAnyH_ready (rs := [7, 12]) (by kernel_rfl) (by simp) ?_
      refine (AllReadyH.cons (by rw [List.getElem?_toArray]; rfl) (fun K hK => ?_) (AllReadyH.cons (by rw [List.getElem?_toArray]; rfl) (fun K hK => ?_) AllReadyH.nil))
      · go_simp
        refine (l1Below_any B p 5 _ cc).mono ?_; rintro e vx ⟨y, rfl, _, _, _, _, nc, nb⟩; (clear n0 n1 n2 n3 n4 n5 n6); (replace cc := nc); (replace N := N.but nb hnp); (replace OW := own_butK OW nb hpo); (replace bb := bb.trans nb); (clear nc nb); (obtain ⟨n0, n1, n2, n3, n4, n5, n6⟩ := id N)
        (try go_wp2_with fail)
        refine hK.out _ _ ?_ (fun hHeld => ?_)
        · exact ⟨n1, n2, n3⟩
        clear hK K
        (try simp only [Act.put, List.setIfInBounds_toArray, List.set_cons_zero, List.set_cons_succ])
        refine wpAnyH_ready (rs := [8, 12]) (by kernel_rfl) (by simp) ?_
        refine (AllReadyH.cons (by rw [List.getElem?_toArray]; rfl) (fun K hK => ?_) (AllReadyH.cons (by rw [List.getElem?_toArray]; rfl) (fun K hK => ?_) AllReadyH.nil))
        · go_simp
          refine (specOccurrence_any s g A n c M x y vx hmn (ownS OW)).mono ?_; rintro e vx ⟨rfl, hbl⟩; (clear n0 n1 n2 n3 n4 n5 n6); (replace cc := cc.below hbl); (replace N := N.below hbl); (replace OW := own_belK' OW hbl); (replace bb := bb.trans (But.of_below hbl)); (clear hbl); (generalize ocL s g M n x y = X at *); (generalize ocH s g M n x y = Y at *); (generalize ocB s g M n x y = Q at *); (obtain ⟨n0, n1, n2, n3, n4, n5, n6⟩ := id N)
          (try go_wp2_with fail)
          refine hK.out _ _ ?_ (fun hHeld => ?_)
          · exact ⟨n1, n2, n3⟩
          clear hK K
          (try simp only [Act.put, List.setIfInBounds_toArray, List.set_cons_zero, List.set_cons_succ])
          refine wpAnyH_take (i := 9) (v := ?_) (by rw [List.getElem?_toArray]; rfl) (by kernel_rfl) (by kernel_rfl) (by kernel_rfl) (by intro _ _ _ h; exact h) (Or.inl ⟨by rfl, ?_⟩) (by assumption) ?_
          rotate_left
          · (intro w hSw; (try dsimp only at hSw); go_simp; all_goals with_reducible rfl)
          (try simp only [Act.put, List.setIfInBounds_toArray, List.set_cons_zero, List.set_cons_succ])
          refine wpAnyH_take (i := 10) (v := ?_) (by rw [List.getElem?_toArray]; rfl) (by kernel_rfl) (by kernel_rfl) (by kernel_rfl) (by intro _ _ _ h; exact h) (Or.inl ⟨by rfl, ?_⟩) (by assumption) ?_
          rotate_left
          · (intro w hSw; (try dsimp only at hSw); go_simp; all_goals with_reducible rfl)
          (try simp only [Act.put, List.setIfInBounds_toArray, List.set_cons_zero, List.set_cons_succ])
          refine wpAnyH_take (i := 11) (v := ?_) (by rw [List.getElem?_toArray]; rfl) (by kernel_rfl) (by kernel_rfl) (by kernel_rfl) (by intro _ _ _ h; exact h) (Or.inl ⟨by rfl, ?_⟩) (by assumption) ?_
          rotate_left
          · (intro w hSw; (try dsimp only at hSw); go_simp; all_goals with_reducible rfl)
          (try simp only [Act.put, List.setIfInBounds_toArray, List.set_cons_zero, List.set_cons_succ])
          refine wpAnyH_ready (rs := [12]) (by kernel_rfl) (by simp) ?_
          refine (AllReadyH.cons (by rw [List.getElem?_toArray]; rfl) (fun K hK => ?_) AllReadyH.nil)
          go_simp
          (clear n0 n1 n2 n3 n4 n5 n6); (have hbl := Below.nw vx (.cells #[.int .i64 0, .int .i64 0] 25)); (have Z := Bx2.new vx (.int .i64 0) (.int .i64 0) 25); (have hzp : vx.heap.size ≠ p := Nat.ne_of_gt cc.lt.1); (have hzn : vx.heap.size ≠ w.heap.size := Nat.ne_of_gt N.1); (have hzw : w.heap.size ≤ vx.heap.size := bb.2.2.2.1); (have hBz : B ≤ vx.heap.size := by have := cc.lt; omega); (replace cc := cc.below hbl); (replace N := N.below hbl); (replace OW := own_belK' OW hbl); (replace bb := bb.trans (But.of_below hbl)); (clear hbl); (generalize vx.heap.size = jz at *); (generalize vx.alloc (.cells #[.int .i64 0, .int .i64 0] 25) = vx at *); (obtain ⟨n0, n1, n2, n3, n4, n5, n6⟩ := id N); (obtain ⟨z0, z1, z2, z3, z4⟩ := id Z)
          refine hK.out _ _ ?_ (fun hHeld => ?_)
          · exact ⟨n1, n2, n3⟩
          clear hK K
          (try simp only [Act.put, List.setIfInBounds_toArray, List.set_cons_zero, List.set_cons_succ])
          refine wpAnyH_ready (rs := [13]) (by kernel_rfl) (by simp) ?_
          refine (AllReadyH.cons (by rw [List.getElem?_toArray]; rfl) (fun K hK => ?_) AllReadyH.nil)
          go_simp
          (clear n0 n1 n2 n3 n4 n5 n6); (clear z0 z1 z2 z3 z4); (replace Z := (Z.set0 (.int .i64 X)).set1 (.int .i64 Y)); (replace cc := (cc.setOther hzp hBz 0 (.int .i64 X)).setOther hzp hBz 1 (.int .i64 Y)); (replace bb := (bb.setNew hzw 0 (.int .i64 X)).setNew hzw 1 (.int .i64 Y)); (replace N := (N.setO hzn 0 (.int .i64 X)).setO hzn 1 (.int .i64 Y)); (clear OW); (generalize (vx.setCell ⟨jz, 0, none⟩ (.int .i64 X)).setCell ⟨jz, 1, none⟩ (.int .i64 Y) = vx at *); (obtain ⟨n0, n1, n2, n3, n4, n5, n6⟩ := id N)
          refine hK.out _ _ ?_ (fun hHeld => ?_)
          · exact ⟨n1, n2, n3⟩
          clear hK K
          (try simp only [Act.put, List.setIfInBounds_toArray, List.set_cons_zero, List.set_cons_succ])
          refine wpAnyH_take (i := 14) (v := ?_) (by rw [List.getElem?_toArray]; rfl) (by kernel_rfl) (by kernel_rfl) (by kernel_rfl) (by intro _ _ _ h; exact h) (Or.inl ⟨by rfl, ?_⟩) (by assumption) ?_
          rotate_left
          · (intro w hSw; (try dsimp only at hSw); go_simp; all_goals with_reducible rfl)
          (try simp only [Act.put, List.setIfInBounds_toArray, List.set_cons_zero, List.set_cons_succ])
          refine wpAnyH_done (by kernel_rfl) ?_ _
          go_wp2_with fail
          go_meet
          case rel => exact ⟨jz, X, Y, Q, rfl, rfl, hzp, Z, cc, bb⟩
        · go_simp
          (clear n0 n1 n2 n3 n4 n5 n6); (have hbl := Below.nw vx (.cells #[.int .i64 0, .int .i64 0] 25)); (have Z := Bx2.new vx (.int .i64 0) (.int .i64 0) 25); (have hzp : vx.heap.size ≠ p := Nat.ne_of_gt cc.lt.1); (have hzn : vx.heap.size ≠ w.heap.size := Nat.ne_of_gt N.1); (have hzw : w.heap.size ≤ vx.heap.size := bb.2.2.2.1); (have hBz : B ≤ vx.heap.size := by have := cc.lt; omega); (replace cc := cc.below hbl); (replace N := N.below hbl); (replace OW := own_belK' OW hbl); (replace bb := bb.trans (But.of_below hbl)); (clear hbl); (generalize vx.heap.size = jz at *); (generalize vx.alloc (.cells #[.int .i64 0, .int .i64 0] 25) = vx at *); (obtain ⟨n0, n1, n2, n3, n4, n5, n6⟩ := id N); (obtain ⟨z0, z1, z2, z3, z4⟩ := id Z)
          refine hK.out _ _ ?_ (fun hHeld => ?_)
          · exact ⟨n1, n2, n3⟩
          clear hK K
          (try simp only [Act.put, List.setIfInBounds_toArray, List.set_cons_zero, List.set_cons_succ])
          refine wpAnyH_ready (rs := [8]) (by kernel_rfl) (by simp) ?_
          refine (AllReadyH.cons (by rw [List.getElem?_toArray]; rfl) (fun K hK => ?_) AllReadyH.nil)
          go_simp
          refine (specOccurrence_any s g A n c M x y vx hmn (ownS OW)).mono ?_; rintro e vx ⟨rfl, hbl⟩; (clear n0 n1 n2 n3 n4 n5 n6); (clear z0 z1 z2 z3 z4); (replace cc := cc.below hbl); (replace N := N.below hbl); (replace OW := own_belK' OW hbl); (replace bb := bb.trans (But.of_below hbl)); (replace Z := Z.below hbl); (clear hbl); (generalize ocL s g M n x y = X at *); (generalize ocH s g M n x y = Y at *); (generalize ocB s g M n x y = Q at *); (obtain ⟨n0, n1, n2, n3, n4, n5, n6⟩ := id N); (obtain ⟨z0, z1, z2, z3, z4⟩ := id Z)
          (try go_wp2_with fail)
          refine hK.out _ _ ?_ (fun hHeld => ?_)
          · exact ⟨n1, n2, n3⟩
          clear hK K
          (try simp only [Act.put, List.setIfInBounds_toArray, List.set_cons_zero, List.set_cons_succ])
          refine wpAnyH_take (i := 9) (v := ?_) (by rw [List.getElem?_toArray]; rfl) (by kernel_rfl) (by kernel_rfl) (by kernel_rfl) (by intro _ _ _ h; exact h) (Or.inl ⟨by rfl, ?_⟩) (by assumption) ?_
          rotate_left
          · (intro w hSw; (try dsimp only at hSw); go_simp; all_goals with_reducible rfl)
          (try simp only [Act.put, List.setIfInBounds_toArray, List.set_cons_zero, List.set_cons_succ])
          refine wpAnyH_take (i := 10) (v := ?_) (by rw [List.getElem?_toArray]; rfl) (by kernel_rfl) (by kernel_rfl) (by kernel_rfl) (by intro _ _ _ h; exact h) (Or.inl ⟨by rfl, ?_⟩) (by assumption) ?_
          rotate_left
          · (intro w hSw; (try dsimp only at hSw); go_simp; all_goals with_reducible rfl)
          (try simp only [Act.put, List.setIfInBounds_toArray, List.set_cons_zero, List.set_cons_succ])
          refine wpAnyH_take (i := 11) (v := ?_) (by rw [List.getElem?_toArray]; rfl) (by kernel_rfl) (by kernel_rfl) (by kernel_rfl) (by intro _ _ _ h; exact h) (Or.inl ⟨by rfl, ?_⟩) (by assumption) ?_
          rotate_left
          · (intro w hSw; (try dsimp only at hSw); go_simp; all_goals with_reducible rfl)
          (try simp only [Act.put, List.setIfInBounds_toArray, List.set_cons_zero, List.set_cons_succ])
          refine wpAnyH_ready (rs := [13]) (by kernel_rfl) (by simp) ?_
          refine (AllReadyH.cons (by rw [List.getElem?_toArray]; rfl) (fun K hK => ?_) AllReadyH.nil)
          go_simp
          (clear n0 n1 n2 n3 n4 n5 n6); (clear z0 z1 z2 z3 z4); (replace Z := (Z.set0 (.int .i64 X)).set1 (.int .i64 Y)); (replace cc := (cc.setOther hzp hBz 0 (.int .i64 X)).setOther hzp hBz 1 (.int .i64 Y)); (replace bb := (bb.setNew hzw 0 (.int .i64 X)).setNew hzw 1 (.int .i64 Y)); (replace N := (N.setO hzn 0 (.int .i64 X)).setO hzn 1 (.int .i64 Y)); (clear OW); (generalize (vx.setCell ⟨jz, 0, none⟩ (.int .i64 X)).setCell ⟨jz, 1, none⟩ (.int .i64 Y) = vx at *); (obtain ⟨n0, n1, n2, n3, n4, n5, n6⟩ := id N)
          refine hK.out _ _ ?_ (fun hHeld => ?_)
          · exact ⟨n1, n2, n3⟩
          clear hK K
          (try simp only [Act.put, List.setIfInBounds_toArray, List.set_cons_zero, List.set_cons_succ])
          refine wpAnyH_take (i := 14) (v := ?_) (by rw [List.getElem?_toArray]; rfl) (by kernel_rfl) (by kernel_rfl) (by kernel_rfl) (by intro _ _ _ h; exact h) (Or.inl ⟨by rfl, ?_⟩) (by assumption) ?_
          rotate_left
          · (intro w hSw; (try dsimp only at hSw); go_simp; all_goals with_reducible rfl)
          (try simp only [Act.put, List.setIfInBounds_toArray, List.set_cons_zero, List.set_cons_succ])
          refine wpAnyH_done (by kernel_rfl) ?_ _
          go_wp2_with fail
          go_meet
          case rel => exact ⟨jz, X, Y, Q, rfl, rfl, hzp, Z, cc, bb⟩
      · go_simp
        (clear n0 n1 n2 n3 n4 n5 n6); (have hbl := Below.nw vx (.cells #[.int .i64 0, .int .i64 0] 25)); (have Z := Bx2.new vx (.int .i64 0) (.int .i64 0) 25); (have hzp : vx.heap.size ≠ p := Nat.ne_of_gt cc.lt.1); (have hzn : vx.heap.size ≠ w.heap.size := Nat.ne_of_gt N.1); (have hzw : w.heap.size ≤ vx.heap.size := bb.2.2.2.1); (have hBz : B ≤ vx.heap.size := by have := cc.lt; omega); (replace cc := cc.below hbl); (replace N := N.below hbl); (replace OW := own_belK' OW hbl); (replace bb := bb.trans (But.of_below hbl)); (clear hbl); (generalize vx.heap.size = jz at *); (generalize vx.alloc (.cells #[.int .i64 0, .int .i64 0] 25) = vx at *); (obtain ⟨n0, n1, n2, n3, n4, n5, n6⟩ := id N); (obtain ⟨z0, z1, z2, z3, z4⟩ := id Z)
        refine hK.out _ _ ?_ (fun hHeld => ?_)
        · exact ⟨n1, n2, n3⟩
        clear hK K
        (try simp only [Act.put, List.setIfInBounds_toArray, List.set_cons_zero, List.set_cons_succ])
        refine wpAnyH_ready (rs := [7]) (by kernel_rfl) (by simp) ?_
        refine (AllReadyH.cons (by rw [List.getElem?_toArray]; rfl) (fun K hK => ?_) AllReadyH.nil)
        go_simp
        refine (l1Below_any B p 5 _ cc).mono ?_; rintro e vx ⟨y, rfl, _, _, _, _, nc, nb⟩; (clear n0 n1 n2 n3 n4 n5 n6); (clear z0 z1 z2 z3 z4); (replace cc := nc); (replace N := N.but nb hnp); (replace OW := own_butK OW nb hpo); (replace bb := bb.trans nb); (replace Z := Z.but nb hzp); (clear nc nb); (obtain ⟨n0, n1, n2, n3, n4, n5, n6⟩ := id N); (obtain ⟨z0, z1, z2, z3, z4⟩ := id Z)
        (try go_wp2_with fail)
        refine hK.out _ _ ?_ (fun hHeld => ?_)
        · exact ⟨n1, n2, n3⟩
        clear hK K
        (try simp only [Act.put, List.setIfInBounds_toArray, List.set_cons_zero, List.set_cons_succ])
        refine wpAnyH_ready (rs := [8]) (by kernel_rfl) (by simp) ?_
        refine (AllReadyH.cons (by rw [List.getElem?_toArray]; rfl) (fun K hK => ?_) AllReadyH.nil)
        go_simp
        refine (specOccurrence_any s g A n c M x y vx hmn (ownS OW)).mono ?_; rintro e vx ⟨rfl, hbl⟩; (clear n0 n1 n2 n3 n4 n5 n6); (clear z0 z1 z2 z3 z4); (replace cc := cc.below hbl); (replace N := N.below hbl); (replace OW := own_belK' OW hbl); (replace bb := bb.trans (But.of_below hbl)); (replace Z := Z.below hbl); (clear hbl); (generalize ocL s g M n x y = X at *); (generalize ocH s g M n x y = Y at *); (generalize ocB s g M n x y = Q at *); (obtain ⟨n0, n1, n2, n3, n4, n5, n6⟩ := id N); (obtain ⟨z0, z1, z2, z3, z4⟩ := id Z)
        (try go_wp2_with fail)
        refine hK.out _ _ ?_ (fun hHeld => ?_)
        · exact ⟨n1, n2, n3⟩
        clear hK K
        (try simp only [Act.put, List.setIfInBounds_toArray, List.set_cons_zero, List.set_cons_succ])
        refine wpAnyH_take (i := 9) (v := ?_) (by rw [List.getElem?_toArray]; rfl) (by kernel_rfl) (by kernel_rfl) (by kernel_rfl) (by intro _ _ _ h; exact h) (Or.inl ⟨by rfl, ?_⟩) (by assumption) ?_
        rotate_left
        · (intro w hSw; (try dsimp only at hSw); go_simp; all_goals with_reducible rfl)
        (try simp only [Act.put, List.setIfInBounds_toArray, List.set_cons_zero, List.set_cons_succ])
        refine wpAnyH_take (i := 10) (v := ?_) (by rw [List.getElem?_toArray]; rfl) (by kernel_rfl) (by kernel_rfl) (by kernel_rfl) (by intro _ _ _ h; exact h) (Or.inl ⟨by rfl, ?_⟩) (by assumption) ?_
        rotate_left
        · (intro w hSw; (try dsimp only at hSw); go_simp; all_goals with_reducible rfl)
        (try simp only [Act.put, List.setIfInBounds_toArray, List.set_cons_zero, List.set_cons_succ])
        refine wpAnyH_take (i := 11) (v := ?_) (by rw [List.getElem?_toArray]; rfl) (by kernel_rfl) (by kernel_rfl) (by kernel_rfl) (by intro _ _ _ h; exact h) (Or.inl ⟨by rfl, ?_⟩) (by assumption) ?_
        rotate_left
        · (intro w hSw; (try dsimp only at hSw); go_simp; all_goals with_reducible rfl)
        (try simp only [Act.put, List.setIfInBounds_toArray, List.set_cons_zero, List.set_cons_succ])
        refine wpAnyH_ready (rs := [13]) (by kernel_rfl) (by simp) ?_
        refine (AllReadyH.cons (by rw [List.getElem?_toArray]; rfl) (fun K hK => ?_) AllReadyH.nil)
        go_simp
        (clear n0 n1 n2 n3 n4 n5 n6); (clear z0 z1 z2 z3 z4); (replace Z := (Z.set0 (.int .i64 X)).set1 (.int .i64 Y)); (replace cc := (cc.setOther hzp hBz 0 (.int .i64 X)).setOther hzp hBz 1 (.int .i64 Y)); (replace bb := (bb.setNew hzw 0 (.int .i64 X)).setNew hzw 1 (.int .i64 Y)); (replace N := (N.setO hzn 0 (.int .i64 X)).setO hzn 1 (.int .i64 Y)); (clear OW); (generalize (vx.setCell ⟨jz, 0, none⟩ (.int .i64 X)).setCell ⟨jz, 1, none⟩ (.int .i64 Y) = vx at *); (obtain ⟨n0, n1, n2, n3, n4, n5, n6⟩ := id N)
        refine hK.out _ _ ?_ (fun hHeld => ?_)
        · exact ⟨n1, n2, n3⟩
        clear hK K
        (try simp only [Act.put, List.setIfInBounds_toArray, List.set_cons_zero, List.set_cons_succ])
        refine wpAnyH_take (i := 14) (v := ?_) (by rw [List.getElem?_toArray]; rfl) (by kernel_rfl) (by kernel_rfl) (by kernel_rfl) (by intro _ _ _ h; exact h) (Or.inl ⟨by rfl, ?_⟩) (by assumption) ?_
        rotate_left
        · (intro w hSw; (try dsimp only at hSw); go_simp; all_goals with_reducible rfl)
        (try simp only [Act.put, List.setIfInBounds_toArray, List.set_cons_zero, List.set_cons_succ])
        refine wpAnyH_done (by kernel_rfl) ?_ _
        go_wp2_with fail
        go_meet
        case rel => exact ⟨jz, X, Y, Q, rfl, rfl, hzp, Z, cc, bb⟩
    · go_simp
      (clear n0 n1 n2 n3 n4 n5 n6); (have hbl := Below.nw vx (.cells #[.int .i64 0, .int .i64 0] 25)); (have Z := Bx2.new vx (.int .i64 0) (.int .i64 0) 25); (have hzp : vx.heap.size ≠ p := Nat.ne_of_gt cc.lt.1); (have hzn : vx.heap.size ≠ w.heap.size := Nat.ne_of_gt N.1); (have hzw : w.heap.size ≤ vx.heap.size := bb.2.2.2.1); (have hBz : B ≤ vx.heap.size := by have := cc.lt; omega); (replace cc := cc.below hbl); (replace N := N.below hbl); (replace OW := own_belK' OW hbl); (replace bb := bb.trans (But.of_below hbl)); (clear hbl); (generalize vx.heap.size = jz at *); (generalize vx.alloc (.cells #[.int .i64 0, .int .i64 0] 25) = vx at *); (obtain ⟨n0, n1, n2, n3, n4, n5, n6⟩ := id N); (obtain ⟨z0, z1, z2, z3, z4⟩ := id Z)
      refine hK.out _ _ ?_ (fun hHeld => ?_)
      · exact ⟨n1, n2, n3⟩
      clear hK K
      (try simp only [Act.put, List.setIfInBounds_toArray, List.set_cons_zero, List.set_cons_succ])
      refine wpAnyH_ready (rs := [5]) (by kernel_rfl) (by simp) ?_
      refine (AllReadyH.cons (by rw [List.getElem?_toArray]; rfl) (fun K hK => ?_) AllReadyH.nil)
      go_simp
      refine (l1Below_any B p (n : Int) _ cc).mono ?_; rintro e vx ⟨x, rfl, _, _, _, _, nc, nb⟩; (clear n0 n1 n2 n3 n4 n5 n6); (clear z0 z1 z2 z3 z4); (replace cc := nc); (replace N := N.but nb hnp); (replace OW := own_butK OW nb hpo); (replace bb := bb.trans nb); (replace Z := Z.but nb hzp); (clear nc nb); (obtain ⟨n0, n1, n2, n3, n4, n5, n6⟩ := id N); (obtain ⟨z0, z1, z2, z3, z4⟩ := id Z)
      (try go_wp2_with fail)
      refine hK.out _ _ ?_ (fun hHeld => ?_)
      · exact ⟨n1, n2, n3⟩
      clear hK K
      (try simp only [Act.put, List.setIfInBounds_toArray, List.set_cons_zero, List.set_cons_succ])
      refine wpAnyH_ready (rs := [7]) (by kernel_rfl) (by simp) ?_
      refine (AllReadyH.cons (by rw [List.getElem?_toArray]; rfl) (fun K hK => ?_) AllReadyH.nil)
      go_simp
      refine (l1Below_any B p 5 _ cc).mono ?_; rintro e vx ⟨y, rfl, _, _, _, _, nc, nb⟩; (clear n0 n1 n2 n3 n4 n5 n6); (clear z0 z1 z2 z3 z4); (replace cc := nc); (replace N := N.but nb hnp); (replace OW := own_butK OW nb hpo); (replace bb := bb.trans nb); (replace Z := Z.but nb hzp); (clear nc nb); (obtain ⟨n0, n1, n2, n3, n4, n5, n6⟩ := id N); (obtain ⟨z0, z1, z2, z3, z4⟩ := id Z)
      (try go_wp2_with fail)
      refine hK.out _ _ ?_ (fun hHeld => ?_)
      · exact ⟨n1, n2, n3⟩
      clear hK K
      (try simp only [Act.put, List.setIfInBounds_toArray, List.set_cons_zero, List.set_cons_succ])
      refine wpAnyH_ready (rs := [8]) (by kernel_rfl) (by simp) ?_
      refine (AllReadyH.cons (by rw [List.getElem?_toArray]; rfl) (fun K hK => ?_) AllReadyH.nil)
      go_simp
      refine (specOccurrence_any s g A n c M x y vx hmn (ownS OW)).mono ?_; rintro e vx ⟨rfl, hbl⟩; (clear n0 n1 n2 n3 n4 n5 n6); (clear z0 z1 z2 z3 z4); (replace cc := cc.below hbl); (replace N := N.below hbl); (replace OW := own_belK' OW hbl); (replace bb := bb.trans (But.of_below hbl)); (replace Z := Z.below hbl); (clear hbl); (generalize ocL s g M n x y = X at *); (generalize ocH s g M n x y = Y at *); (generalize ocB s g M n x y = Q at *); (obtain ⟨n0, n1, n2, n3, n4, n5, n6⟩ := id N); (obtain ⟨z0, z1, z2, z3, z4⟩ := id Z)
      (try go_wp2_with fail)
      refine hK.out _ _ ?_ (fun hHeld => ?_)
      · exact ⟨n1, n2, n3⟩
      clear hK K
      (try simp only [Act.put, List.setIfInBounds_toArray, List.set_cons_zero, List.set_cons_succ])
      refine wpAnyH_take (i := 9) (v := ?_) (by rw [List.getElem?_toArray]; rfl) (by kernel_rfl) (by kernel_rfl) (by kernel_rfl) (by intro _ _ _ h; exact h) (Or.inl ⟨by rfl, ?_⟩) (by assumption) ?_
      rotate_left
      · (intro w hSw; (try dsimp only at hSw); go_simp; all_goals with_reducible rfl)
      (try simp only [Act.put, List.setIfInBounds_toArray, List.set_cons_zero, List.set_cons_succ])
      refine wpAnyH_take (i := 10) (v := ?_) (by rw [List.getElem?_toArray]; rfl) (by kernel_rfl) (by kernel_rfl) (by kernel_rfl) (by intro _ _ _ h; exact h) (Or.inl ⟨by rfl, ?_⟩) (by assumption) ?_
      rotate_left
      · (intro w hSw; (try dsimp only at hSw); go_simp; all_goals with_reducible rfl)
      (try simp only [Act.put, List.setIfInBounds_toArray, List.set_cons_zero, List.set_cons_succ])
      refine wpAnyH_take (i := 11) (v := ?_) (by rw [List.getElem?_toArray]; rfl) (by kernel_rfl) (by kernel_rfl) (by kernel_rfl) (by intro _ _ _ h; exact h) (Or.inl ⟨by rfl, ?_⟩) (by assumption) ?_
      rotate_left
      · (intro w hSw; (try dsimp only at hSw); go_simp; all_goals with_reducible rfl)
      (try simp only [Act.put, List.setIfInBounds_toArray, List.set_cons_zero, List.set_cons_succ])
      refine wpAnyH_ready (rs := [13]) (by kernel_rfl) (by simp) ?_
      refine (AllReadyH.cons (by rw [List.getElem?_toArray]; rfl) (fun K hK => ?_) AllReadyH.nil)
      go_simp
      (clear n0 n1 n2 n3 n4 n5 n6); (clear z0 z1 z2 z3 z4); (replace Z := (Z.set0 (.int .i64 X)).set1 (.int .i64 Y)); (replace cc := (cc.setOther hzp hBz 0 (.int .i64 X)).setOther hzp hBz 1 (.int .i64 Y)); (replace bb := (bb.setNew hzw 0 (.int .i64 X)).setNew hzw 1 (.int .i64 Y)); (replace N := (N.setO hzn 0 (.int .i64 X)).setO hzn 1 (.int .i64 Y)); (clear OW); (generalize (vx.setCell ⟨jz, 0, none⟩ (.int .i64 X)).setCell ⟨jz, 1, none⟩ (.int .i64 Y) = vx at *); (obtain ⟨n0, n1, n2, n3, n4, n5, n6⟩ := id N)
      refine hK.out _ _ ?_ (fun hHeld => ?_)
      · exact ⟨n1, n2, n3⟩
      clear hK K
      (try simp only [Act.put, List.setIfInBounds_toArray, List.set_cons_zero, List.set_cons_succ])
      refine wpAnyH_take (i := 14) (v := ?_) (by rw [List.getElem?_toArray]; rfl) (by kernel_rfl) (by kernel_rfl) (by kernel_rfl) (by intro _ _ _ h; exact h) (Or.inl ⟨by rfl, ?_⟩) (by assumption) ?_
      rotate_left
      · (intro w hSw; (try dsimp only at hSw); go_simp; all_goals with_reducible rfl)
      (try simp only [Act.put, List.setIfInBounds_toArray, List.set_cons_zero, List.set_cons_succ])
      refine wpAnyH_done (by kernel_rfl) ?_ _
      go_wp2_with fail
      go_meet
      case rel => exact ⟨jz, X, Y, Q, rfl, rfl, hzp, Z, cc, bb⟩
  case rest =>
    (clear n0 n1 n2 n3 n4 n5 n6)
    clear N OW cc bb
    obtain ⟨jz, X, Y, Q, rfl, rfl, hzp, Z, cc, bb⟩ := hcut
    generalize wc = v2 at *
    cases Q
    · go_wp2_with fail
      refine (l2DrawCount_any B p _ cc).mono ?_
      rintro e v3 ⟨y, rfl, nc, nb⟩
      have b2 := bb.trans nb
      go_wp2_with fail
      go_ret
      exact ⟨y, rfl, nc, b2⟩
    · go_wp2_with fail
      refine (l1Once_any B p 6 _ cc).mono ?_
      rintro e v3 ⟨oo, rfl, nc, nb⟩
      have Z3 := Z.but nb hzp
      have b3 := bb.trans nb
      clear cc bb nb Z
      cases oo
      · obtain ⟨z0, z1, z2, z3, z4⟩ := id Z3
        go_wp2_with fail
        refine (pick5 B p v3 _ _ _ _ _ nc).mono ?_
        rintro e v4 ⟨y, rfl, nd, nb⟩
        have b4 := b3.trans nb
        clear z0 z1 z2 z3 z4
        go_wp2_with fail
        go_ret
        exact ⟨y, rfl, nd, b4⟩
      · go_wp2_with fail
        refine (l2DrawCount_any B p _ nc).mono ?_
        rintro e v4 ⟨y, rfl, nd, nb⟩
        have b4 := b3.trans nb
        go_wp2_with fail
        go_ret
        exact ⟨y, rfl, nd, b4⟩
end Go.Proofs.YtcakhfobkbgfoaaDoor
namespace Go.Proofs.YtcakhfobkbgfoaaDoor
open Go.RowKit
set_option linter.unusedVariables false
theorem BoxL.but {p k : Nat} {w w' : World} {a : Bool} {b c d : Int} (h : BoxL w k a b c d) (hw : But p w w') (hk : k ≠ p) : BoxL w' k a b c d := by
  obtain ⟨h0, h1, h2, h3, h4, f1, f2, f3, f4⟩ := h
  exact ⟨Nat.lt_of_lt_of_le h0 hw.2.2.2.1, by rw [hw.cell h0 hk]; exact h1, by rw [hw.cell h0 hk]; exact h2, by rw [hw.cell h0 hk]; exact h3, by rw [hw.cell h0 hk]; exact h4, by rw [hw.frozen h0 hk]; exact f1, by rw [hw.frozen h0 hk]; exact f2, by rw [hw.frozen h0 hk]; exact f3, by rw [hw.frozen h0 hk]; exact f4⟩
theorem Bx.butD {p k : Nat} {w w' : World} {x y : Int} (h : Bx w k x y) (hw : But p w w') (hk : k ≠ p) : Bx w' k x y :=
  ⟨Nat.lt_of_lt_of_le h.1 hw.2.2.2.1, by rw [hw.cell h.1 hk]; exact h.2.1, by rw [hw.cell h.1 hk]; exact h.2.2.1, by rw [hw.frozen h.1 hk]; exact h.2.2.2.1, by rw [hw.frozen h.1 hk]; exact h.2.2.2.2⟩
theorem CurOk.setL {w : World} {B p k : Nat} (h : CurOk w B p) (hk : k ≠ p) (hB : B ≤ k) (a : Bool) (b c d : Int) : CurOk (setL w k a b c d) B p := (((h.setOther hk hB _ _).setOther hk hB _ _).setOther hk hB _ _).setOther hk hB _ _
theorem But.setL {p k : Nat} {u w : World} (h : But p u w) (hk : u.heap.size ≤ k) (a : Bool) (b c d : Int) : But p u (setL w k a b c d) := (((h.setNew hk _ _).setNew hk _ _).setNew hk _ _).setNew hk _ _
theorem BoxL.setK {k : Nat} {w : World} {a : Bool} {b c d : Int} (h : BoxL w k a b c d) (a' : Bool) : BoxL (w.setCell ⟨k, 0, none⟩ (.bool a')) k a' b c d := by
  obtain ⟨h0, h1, h2, h3, h4, f1, f2, f3, f4⟩ := h
  exact ⟨by simpa using h0, World.cell?_setCell_same _ _ _ h1, by rw [World.cell?_setCell_other _ _ _ _ (by simp)]; exact h2, by rw [World.cell?_setCell_other _ _ _ _ (by simp)]; exact h3, by rw [World.cell?_setCell_other _ _ _ _ (by simp)]; exact h4, by simpa using f1, by simpa using f2, by simpa using f3, by simpa using f4⟩
theorem BoxL.setA {k : Nat} {w : World} {a : Bool} {b c d : Int} (h : BoxL w k a b c d) (d' : Int) : BoxL (w.setCell ⟨k, 3, none⟩ (.int .i64 d')) k a b c d' := by
  obtain ⟨h0, h1, h2, h3, h4, f1, f2, f3, f4⟩ := h
  exact ⟨by simpa using h0, by rw [World.cell?_setCell_other _ _ _ _ (by simp)]; exact h1, by rw [World.cell?_setCell_other _ _ _ _ (by simp)]; exact h2, by rw [World.cell?_setCell_other _ _ _ _ (by simp)]; exact h3, World.cell?_setCell_same _ _ _ h4, by simpa using f1, by simpa using f2, by simpa using f3, by simpa using f4⟩
set_option maxHeartbeats 3200000 in
theorem l6DrawDrift_any (B p : Nat) (w : World) (hcur : CurOk w B p) :
    Calls Tryd.prog 38 #[.pointer (some ⟨p, 0, none⟩)] w fun e w' => ∃ x y : Int, e = .returned (.agg #[.int .i64 x, .int .i64 y]) ∧ CurOk w' B p ∧ But p w w' := by
  have hpl := hcur.lt
  have hpw : w.heap.size ≠ p := by omega
  have hBw : B ≤ w.heap.size := by omega
  have A1 := Below.al w (.cells #[.int .i64 0, .int .i64 0] 27)
  have R0 := Bx.new w 0 0 27
  go_enter Tryd.func38, Tryd.ntmps38
  go_wp2_with fail
  refine (l2DrawDrift_any B p _ (by exact hcur.below A1)).mono ?_
  rintro e w1 ⟨x, y, rfl, w1c, w1b⟩
  have R1 := R0.butD w1b hpw
  have b1 : But p w w1 := (But.of_below A1).trans w1b
  have q1 := w1c.lt
  have hk : w1.heap.size ≠ p := by omega
  have A2 := Below.al w1 (.cells #[.int .i64 x, .int .i64 y] 27)
  have N1 := Bx.new w1 x y 27
  have hwk : w.heap.size < w1.heap.size := R1.1
  have n1 : w.heap.size ≠ w1.heap.size := by omega
  have n2 : w1.heap.size ≠ w.heap.size := by omega
  clear R0 A1 w1b hcur
  go_wp2_with fail
  refine (specDriftOk_any _ _ _).mono ?_
  rintro e w2 ⟨rfl, hb⟩
  have R2 := (R1.below A2).below hb
  have N2 := N1.below hb
  have c2 := (w1c.below A2).below hb
  have b2 : But p w w2 := (b1.alloc _).trans (But.of_below hb)
  clear R1 N1 b1 hb A2 w1c
  cases hd : okD x y
  · go_wp2_with fail
    refine (l1Once_any B p 4 _ c2).mono ?_
    rintro e w3 ⟨o, rfl, w3c, w3b⟩
    have R3 := R2.butD w3b hpw
    have N3 := N2.butD w3b hk
    have b3 := b2.trans w3b
    clear R2 N2 b2 w3b c2
    obtain ⟨g1, g2, g3, g4, g5⟩ := R3
    obtain ⟨m1, m2, m3, m4, m5⟩ := N3
    cases o
    · go_wp2_with fail
      exact bodyPost_ret (v := .agg #[.int .i64 1, .int .i64 20]) (by simp (maxDischargeDepth := 6) [results, Tryd.results38, go_sem, *]) rfl ⟨_, _, rfl, (w3c.setOther hpw hBw _ _).setOther hpw hBw _ _, (b3.setNew (Nat.le_refl _) _ _).setNew (Nat.le_refl _) _ _⟩
    · go_wp2_with fail
      exact bodyPost_ret (v := .agg #[.int .i64 x, .int .i64 y]) (by simp (maxDischargeDepth := 6) [results, Tryd.results38, go_sem, *]) rfl ⟨_, _, rfl, (w3c.setOther hpw hBw _ _).setOther hpw hBw _ _, (b3.setNew (Nat.le_refl _) _ _).setNew (Nat.le_refl _) _ _⟩
  · obtain ⟨g1, g2, g3, g4, g5⟩ := R2
    obtain ⟨m1, m2, m3, m4, m5⟩ := N2
    go_wp2_with fail
    exact bodyPost_ret (v := .agg #[.int .i64 x, .int .i64 y]) (by simp (maxDischargeDepth := 6) [results, Tryd.results38, go_sem, *]) rfl ⟨_, _, rfl, (c2.setOther hpw hBw _ _).setOther hpw hBw _ _, (b2.setNew (Nat.le_refl _) _ _).setNew (Nat.le_refl _) _ _⟩
end Go.Proofs.YtcakhfobkbgfoaaDoor
