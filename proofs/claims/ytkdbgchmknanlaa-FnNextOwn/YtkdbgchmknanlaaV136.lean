/- The draw of a time; what DrawNextOwn leaves. -/
import Derived.Test.YtkdbgchmknanlaaV133
import Derived.Test.YtkdbgchmknanlaaB135
import Derived.Deep.RegionHeld3
import Derived.WalkKit
import Derived.WalkSpells
import Derived.WalkLawsBesides
import Derived.Deep.RegionHeld
namespace Go.Proofs.Ytkdbgchmknanlaa
open Go.RowKit
set_option linter.unusedVariables false
theorem pick5 (B p : Nat) (w : World) (a b c d e : Int) (hcur : CurOk w B p) :
    Calls Try.prog 72 #[.pointer (some ⟨p, 0, none⟩), .slice (some ⟨w.heap.size, 0, none⟩) 5 5] (w.alloc (.cells #[.int .i64 a, .int .i64 b, .int .i64 c, .int .i64 d, .int .i64 e] 3)) fun e w' => ∃ v : Int, e = .returned (.int .i64 v) ∧ CurOk w' B p ∧ But p w w' := by
  have h := pickLit B p w [a, b, c, d, e] hcur (by simp) (by simp)
  simp only [List.map_cons, List.map_nil, List.length_cons, List.length_nil, Nat.zero_add, Nat.reduceAdd] at h
  exact h
set_option maxRecDepth 100000 in
set_option maxHeartbeats 16000000 in
theorem l13DrawTime_any (B p base : Nat) (s g : Int) (A : Option Addr) (n c : Nat) (M : Nat → SlT) (w : World) (hcur : CurOk w B p) (hn13 : n ≤ 13) (hpo : p < base) (hown : w.ownsRow base 60 2 (.slice A n c) n (srow M n)) :
    Calls Try.prog 73 #[.pointer (some ⟨p, 0, none⟩), .agg #[.int .i64 s, .int .i64 g, .slice A n c]] w fun e w' => ∃ x : Int, e = .returned (.int .i64 x) ∧ CurOk w' B p ∧ But p w w' := by
  have hmn : n ≤ maxLen := by unfold maxLen; omega
  have nl := Below.nw w (.cells #[.int .i64 s, .int .i64 g, .slice A n c] 29)
  have N := Tx3.new w (.int .i64 s) (.int .i64 g) (.slice A n c) 29
  have hnp : w.heap.size ≠ p := Nat.ne_of_gt hcur.lt.1
  have cc := hcur.below nl
  have OW := own_belK' hown nl
  have bb : But p w _ := But.of_below nl
  clear nl hcur hown
  go_enter Try.func73, Try.ntmps73
  go_upto_region 1 with fail
  generalize w.alloc (.cells #[.int .i64 s, .int .i64 g, .slice A n c] 29) = v at *
  (obtain ⟨n0, n1, n2, n3, n4, n5, n6⟩ := id N)
  go_cut [5, 6] (fun s5 s6 wx => ∃ (jz : Nat) (X Y : Int) (Q : Bool), s5 = .pointer (some ⟨jz, 0, none⟩) ∧ s6 = .bool Q ∧ jz ≠ p ∧ Bx2 wx jz (.int .i64 X) (.int .i64 Y) ∧ CurOk wx B p ∧ But p w wx)
  case first => as_aux_lemma =>
    refine wp_region_held_drew (S := (fun w' => w'.cell? ⟨w.heap.size, 0, none⟩ = some (.int .i64 s) ∧ w'.cell? ⟨w.heap.size, 1, none⟩ = some (.int .i64 g) ∧ w'.cell? ⟨w.heap.size, 2, none⟩ = some (.slice A n c))) (by kernel_rfl) ?_ (fun hHeld => ?_)
    · exact ⟨n1, n2, n3⟩
    clear n0 n1 n2 n3 n4 n5 n6
    replace cc : CurOk v.drew B p := cc
    replace N := N.drew
    replace OW : v.drew.ownsRow base 60 2 (.slice A n c) n (srow M n) := OW
    replace bb : But p w v.drew := bb
    generalize v.drew = vx at *
    (obtain ⟨n0, n1, n2, n3, n4, n5, n6⟩ := id N)
    refine wpAnyH_take (i := 0) (v := ?_) (by rw [List.getElem?_toArray]; rfl) (by kernel_rfl) (by kernel_rfl) (by kernel_rfl) (by intro _ _ _ h; exact h) (Or.inl ⟨by rfl, ?_⟩) (by assumption) ?_
    rotate_left
    · (intro w hSw; (try dsimp only at hSw); go_simp; all_goals with_reducible rfl)
    (try simp only [Act.put, List.setIfInBounds_toArray, List.set_cons_zero, List.set_cons_succ])
    refine wpAnyH_take (i := 1) (v := ?_) (by rw [List.getElem?_toArray]; rfl) (by kernel_rfl) (by kernel_rfl) (by kernel_rfl) (by intro _ _ _ h; exact h) (Or.inl ⟨by rfl, ?_⟩) (by assumption) ?_
    rotate_left
    · (intro w hSw; (try dsimp only at hSw); go_simp; all_goals with_reducible rfl)
    (try simp only [Act.put, List.setIfInBounds_toArray, List.set_cons_zero, List.set_cons_succ])
    refine wpAnyH_take (i := 2) (v := ?_) (by rw [List.getElem?_toArray]; rfl) (by kernel_rfl) (by kernel_rfl) (by kernel_rfl) (by intro _ _ _ h; exact h) (Or.inl ⟨by rfl, ?_⟩) (by assumption) ?_
    rotate_left
    · (intro w hSw; (try dsimp only at hSw); go_simp; all_goals with_reducible rfl)
    (try simp only [Act.put, List.setIfInBounds_toArray, List.set_cons_zero, List.set_cons_succ])
    refine wpAnyH_take (i := 3) (v := ?_) (by rw [List.getElem?_toArray]; rfl) (by kernel_rfl) (by kernel_rfl) (by kernel_rfl) (by intro _ _ _ h; exact h) (Or.inl ⟨by rfl, ?_⟩) (by assumption) ?_
    rotate_left
    · (intro w hSw; (try dsimp only at hSw); go_simp; all_goals with_reducible rfl)
    (try simp only [Act.put, List.setIfInBounds_toArray, List.set_cons_zero, List.set_cons_succ])
    refine wpAnyH_take (i := 4) (v := ?_) (by rw [List.getElem?_toArray]; rfl) (by kernel_rfl) (by kernel_rfl) (by kernel_rfl) (by intro _ _ _ h; exact h) (Or.inl ⟨by rfl, ?_⟩) (by assumption) ?_
    rotate_left
    · (intro w hSw; (try dsimp only at hSw); go_simp; all_goals with_reducible rfl)
    (try simp only [Act.put, List.setIfInBounds_toArray, List.set_cons_zero, List.set_cons_succ])
    refine wpAnyH_take (i := 6) (v := ?_) (by rw [List.getElem?_toArray]; rfl) (by kernel_rfl) (by kernel_rfl) (by kernel_rfl) (by intro _ _ _ h; exact h) (Or.inl ⟨by rfl, ?_⟩) (by assumption) ?_
    rotate_left
    · (intro w hSw; (try dsimp only at hSw); go_simp; all_goals with_reducible rfl)
    (try simp only [Act.put, List.setIfInBounds_toArray, List.set_cons_zero, List.set_cons_succ])
    refine wpAnyH_ready (rs := [5, 12]) (by kernel_rfl) (by simp) ?_
    refine (AllReadyH.cons (by rw [List.getElem?_toArray]; rfl) (fun K hK => ?_) (AllReadyH.cons (by rw [List.getElem?_toArray]; rfl) (fun K hK => ?_) AllReadyH.nil))
    · go_simp
      refine (l1Below_any B p (n : Int) _ cc).mono ?_; rintro e vx ⟨x, rfl, _, _, _, _, nc, nb⟩; (clear n0 n1 n2 n3 n4 n5 n6); (replace cc := nc); (replace N := N.but nb hnp); (replace OW := own_butK OW nb hpo); (replace bb := bb.trans nb); (clear nc nb); (obtain ⟨n0, n1, n2, n3, n4, n5, n6⟩ := id N)
      (try go_wp2_with fail)
      refine hK.out _ _ ?_ (fun hHeld => ?_)
      · exact ⟨n1, n2, n3⟩
      clear hK K
      (try simp only [Act.put, List.setIfInBounds_toArray, List.set_cons_zero, List.set_cons_succ])
      refine wpAnyH_ready (rs := [7, 12]) (by kernel_rfl) (by simp) ?_
      refine (AllReadyH.cons (by rw [List.getElem?_toArray]; rfl) (fun K hK => ?_) (AllReadyH.cons (by rw [List.getElem?_toArray]; rfl) (fun K hK => ?_) AllReadyH.nil))
      · go_simp
        refine (l1Below_any B p 5 _ cc).mono ?_; rintro e vx ⟨y, rfl, _, _, _, _, nc, nb⟩; (clear n0 n1 n2 n3 n4 n5 n6); (replace cc := nc); (replace N := N.but nb hnp); (replace OW := own_butK OW nb hpo); (replace bb := bb.trans nb); (clear nc nb); (obtain ⟨n0, n1, n2, n3, n4, n5, n6⟩ := id N)
        (try go_wp2_with fail)
        refine hK.out _ _ ?_ (fun hHeld => ?_)
        · exact ⟨n1, n2, n3⟩
        clear hK K
        (try simp only [Act.put, List.setIfInBounds_toArray, List.set_cons_zero, List.set_cons_succ])
        refine wpAnyH_ready (rs := [8, 12]) (by kernel_rfl) (by simp) ?_
        refine (AllReadyH.cons (by rw [List.getElem?_toArray]; rfl) (fun K hK => ?_) (AllReadyH.cons (by rw [List.getElem?_toArray]; rfl) (fun K hK => ?_) AllReadyH.nil))
        · go_simp
          refine (specOccurrence_any s g A n c M x y vx hmn (ownS OW)).mono ?_; rintro e vx ⟨rfl, hbl⟩; (clear n0 n1 n2 n3 n4 n5 n6); (replace cc := cc.below hbl); (replace N := N.below hbl); (replace OW := own_belK' OW hbl); (replace bb := bb.trans (But.of_below hbl)); (clear hbl); (generalize ocL s g M n x y = X at *); (generalize ocH s g M n x y = Y at *); (generalize ocB s g M n x y = Q at *); (obtain ⟨n0, n1, n2, n3, n4, n5, n6⟩ := id N)
          (try go_wp2_with fail)
          refine hK.out _ _ ?_ (fun hHeld => ?_)
          · exact ⟨n1, n2, n3⟩
          clear hK K
          (try simp only [Act.put, List.setIfInBounds_toArray, List.set_cons_zero, List.set_cons_succ])
          refine wpAnyH_take (i := 9) (v := ?_) (by rw [List.getElem?_toArray]; rfl) (by kernel_rfl) (by kernel_rfl) (by kernel_rfl) (by intro _ _ _ h; exact h) (Or.inl ⟨by rfl, ?_⟩) (by assumption) ?_
          rotate_left
          · (intro w hSw; (try dsimp only at hSw); go_simp; all_goals with_reducible rfl)
          (try simp only [Act.put, List.setIfInBounds_toArray, List.set_cons_zero, List.set_cons_succ])
          refine wpAnyH_take (i := 10) (v := ?_) (by rw [List.getElem?_toArray]; rfl) (by kernel_rfl) (by kernel_rfl) (by kernel_rfl) (by intro _ _ _ h; exact h) (Or.inl ⟨by rfl, ?_⟩) (by assumption) ?_
          rotate_left
          · (intro w hSw; (try dsimp only at hSw); go_simp; all_goals with_reducible rfl)
          (try simp only [Act.put, List.setIfInBounds_toArray, List.set_cons_zero, List.set_cons_succ])
          refine wpAnyH_take (i := 11) (v := ?_) (by rw [List.getElem?_toArray]; rfl) (by kernel_rfl) (by kernel_rfl) (by kernel_rfl) (by intro _ _ _ h; exact h) (Or.inl ⟨by rfl, ?_⟩) (by assumption) ?_
          rotate_left
          · (intro w hSw; (try dsimp only at hSw); go_simp; all_goals with_reducible rfl)
          (try simp only [Act.put, List.setIfInBounds_toArray, List.set_cons_zero, List.set_cons_succ])
          refine wpAnyH_ready (rs := [12]) (by kernel_rfl) (by simp) ?_
          refine (AllReadyH.cons (by rw [List.getElem?_toArray]; rfl) (fun K hK => ?_) AllReadyH.nil)
          go_simp
          (clear n0 n1 n2 n3 n4 n5 n6); (have hbl := Below.nw vx (.cells #[.int .i64 0, .int .i64 0] 38)); (have Z := Bx2.new vx (.int .i64 0) (.int .i64 0) 38); (have hzp : vx.heap.size ≠ p := Nat.ne_of_gt cc.lt.1); (have hzn : vx.heap.size ≠ w.heap.size := Nat.ne_of_gt N.1); (have hzw : w.heap.size ≤ vx.heap.size := bb.2.2.2.1); (have hBz : B ≤ vx.heap.size := by have := cc.lt; omega); (replace cc := cc.below hbl); (replace N := N.below hbl); (replace OW := own_belK' OW hbl); (replace bb := bb.trans (But.of_below hbl)); (clear hbl); (generalize vx.heap.size = jz at *); (generalize vx.alloc (.cells #[.int .i64 0, .int .i64 0] 38) = vx at *); (obtain ⟨n0, n1, n2, n3, n4, n5, n6⟩ := id N); (obtain ⟨z0, z1, z2, z3, z4⟩ := id Z)
          refine hK.out _ _ ?_ (fun hHeld => ?_)
          · exact ⟨n1, n2, n3⟩
          clear hK K
          (try simp only [Act.put, List.setIfInBounds_toArray, List.set_cons_zero, List.set_cons_succ])
          refine wpAnyH_ready (rs := [13]) (by kernel_rfl) (by simp) ?_
          refine (AllReadyH.cons (by rw [List.getElem?_toArray]; rfl) (fun K hK => ?_) AllReadyH.nil)
          go_simp
          (clear n0 n1 n2 n3 n4 n5 n6); (clear z0 z1 z2 z3 z4); (replace Z := (Z.set0 (.int .i64 X)).set1 (.int .i64 Y)); (replace cc := (cc.setOther hzp hBz 0 (.int .i64 X)).setOther hzp hBz 1 (.int .i64 Y)); (replace bb := (bb.setNew hzw 0 (.int .i64 X)).setNew hzw 1 (.int .i64 Y)); (replace N := (N.setO hzn 0 (.int .i64 X)).setO hzn 1 (.int .i64 Y)); (clear OW); (generalize (vx.setCell ⟨jz, 0, none⟩ (.int .i64 X)).setCell ⟨jz, 1, none⟩ (.int .i64 Y) = vx at *); (obtain ⟨n0, n1, n2, n3, n4, n5, n6⟩ := id N)
          refine hK.out _ _ ?_ (fun hHeld => ?_)
          · exact ⟨n1, n2, n3⟩
          clear hK K
          (try simp only [Act.put, List.setIfInBounds_toArray, List.set_cons_zero, List.set_cons_succ])
          refine wpAnyH_take (i := 14) (v := ?_) (by rw [List.getElem?_toArray]; rfl) (by kernel_rfl) (by kernel_rfl) (by kernel_rfl) (by intro _ _ _ h; exact h) (Or.inl ⟨by rfl, ?_⟩) (by assumption) ?_
          rotate_left
          · (intro w hSw; (try dsimp only at hSw); go_simp; all_goals with_reducible rfl)
          (try simp only [Act.put, List.setIfInBounds_toArray, List.set_cons_zero, List.set_cons_succ])
          refine wpAnyH_done (by kernel_rfl) ?_ _
          go_wp2_with fail
          go_meet
          case rel => exact ⟨jz, X, Y, Q, rfl, rfl, hzp, Z, cc, bb⟩
        · go_simp
          (clear n0 n1 n2 n3 n4 n5 n6); (have hbl := Below.nw vx (.cells #[.int .i64 0, .int .i64 0] 38)); (have Z := Bx2.new vx (.int .i64 0) (.int .i64 0) 38); (have hzp : vx.heap.size ≠ p := Nat.ne_of_gt cc.lt.1); (have hzn : vx.heap.size ≠ w.heap.size := Nat.ne_of_gt N.1); (have hzw : w.heap.size ≤ vx.heap.size := bb.2.2.2.1); (have hBz : B ≤ vx.heap.size := by have := cc.lt; omega); (replace cc := cc.below hbl); (replace N := N.below hbl); (replace OW := own_belK' OW hbl); (replace bb := bb.trans (But.of_below hbl)); (clear hbl); (generalize vx.heap.size = jz at *); (generalize vx.alloc (.cells #[.int .i64 0, .int .i64 0] 38) = vx at *); (obtain ⟨n0, n1, n2, n3, n4, n5, n6⟩ := id N); (obtain ⟨z0, z1, z2, z3, z4⟩ := id Z)
          refine hK.out _ _ ?_ (fun hHeld => ?_)
          · exact ⟨n1, n2, n3⟩
          clear hK K
          (try simp only [Act.put, List.setIfInBounds_toArray, List.set_cons_zero, List.set_cons_succ])
          refine wpAnyH_ready (rs := [8]) (by kernel_rfl) (by simp) ?_
          refine (AllReadyH.cons (by rw [List.getElem?_toArray]; rfl) (fun K hK => ?_) AllReadyH.nil)
          go_simp
          refine (specOccurrence_any s g A n c M x y vx hmn (ownS OW)).mono ?_; rintro e vx ⟨rfl, hbl⟩; (clear n0 n1 n2 n3 n4 n5 n6); (clear z0 z1 z2 z3 z4); (replace cc := cc.below hbl); (replace N := N.below hbl); (replace OW := own_belK' OW hbl); (replace bb := bb.trans (But.of_below hbl)); (replace Z := Z.below hbl); (clear hbl); (generalize ocL s g M n x y = X at *); (generalize ocH s g M n x y = Y at *); (generalize ocB s g M n x y = Q at *); (obtain ⟨n0, n1, n2, n3, n4, n5, n6⟩ := id N); (obtain ⟨z0, z1, z2, z3, z4⟩ := id Z)
          (try go_wp2_with fail)
          refine hK.out _ _ ?_ (fun hHeld => ?_)
          · exact ⟨n1, n2, n3⟩
          clear hK K
          (try simp only [Act.put, List.setIfInBounds_toArray, List.set_cons_zero, List.set_cons_succ])
          refine wpAnyH_take (i := 9) (v := ?_) (by rw [List.getElem?_toArray]; rfl) (by kernel_rfl) (by kernel_rfl) (by kernel_rfl) (by intro _ _ _ h; exact h) (Or.inl ⟨by rfl, ?_⟩) (by assumption) ?_
          rotate_left
          · (intro w hSw; (try dsimp only at hSw); go_simp; all_goals with_reducible rfl)
          (try simp only [Act.put, List.setIfInBounds_toArray, List.set_cons_zero, List.set_cons_succ])
          refine wpAnyH_take (i := 10) (v := ?_) (by rw [List.getElem?_toArray]; rfl) (by kernel_rfl) (by kernel_rfl) (by kernel_rfl) (by intro _ _ _ h; exact h) (Or.inl ⟨by rfl, ?_⟩) (by assumption) ?_
          rotate_left
          · (intro w hSw; (try dsimp only at hSw); go_simp; all_goals with_reducible rfl)
          (try simp only [Act.put, List.setIfInBounds_toArray, List.set_cons_zero, List.set_cons_succ])
          refine wpAnyH_take (i := 11) (v := ?_) (by rw [List.getElem?_toArray]; rfl) (by kernel_rfl) (by kernel_rfl) (by kernel_rfl) (by intro _ _ _ h; exact h) (Or.inl ⟨by rfl, ?_⟩) (by assumption) ?_
          rotate_left
          · (intro w hSw; (try dsimp only at hSw); go_simp; all_goals with_reducible rfl)
          (try simp only [Act.put, List.setIfInBounds_toArray, List.set_cons_zero, List.set_cons_succ])
          refine wpAnyH_ready (rs := [13]) (by kernel_rfl) (by simp) ?_
          refine (AllReadyH.cons (by rw [List.getElem?_toArray]; rfl) (fun K hK => ?_) AllReadyH.nil)
          go_simp
          (clear n0 n1 n2 n3 n4 n5 n6); (clear z0 z1 z2 z3 z4); (replace Z := (Z.set0 (.int .i64 X)).set1 (.int .i64 Y)); (replace cc := (cc.setOther hzp hBz 0 (.int .i64 X)).setOther hzp hBz 1 (.int .i64 Y)); (replace bb := (bb.setNew hzw 0 (.int .i64 X)).setNew hzw 1 (.int .i64 Y)); (replace N := (N.setO hzn 0 (.int .i64 X)).setO hzn 1 (.int .i64 Y)); (clear OW); (generalize (vx.setCell ⟨jz, 0, none⟩ (.int .i64 X)).setCell ⟨jz, 1, none⟩ (.int .i64 Y) = vx at *); (obtain ⟨n0, n1, n2, n3, n4, n5, n6⟩ := id N)
          refine hK.out _ _ ?_ (fun hHeld => ?_)
          · exact ⟨n1, n2, n3⟩
          clear hK K
          (try simp only [Act.put, List.setIfInBounds_toArray, List.set_cons_zero, List.set_cons_succ])
          refine wpAnyH_take (i := 14) (v := ?_) (by rw [List.getElem?_toArray]; rfl) (by kernel_rfl) (by kernel_rfl) (by kernel_rfl) (by intro _ _ _ h; exact h) (Or.inl ⟨by rfl, ?_⟩) (by assumption) ?_
          rotate_left
          · (intro w hSw; (try dsimp only at hSw); go_simp; all_goals with_reducible rfl)
          (try simp only [Act.put, List.setIfInBounds_toArray, List.set_cons_zero, List.set_cons_succ])
          refine wpAnyH_done (by kernel_rfl) ?_ _
          go_wp2_with fail
          go_meet
          case rel => exact ⟨jz, X, Y, Q, rfl, rfl, hzp, Z, cc, bb⟩
      · go_simp
        (clear n0 n1 n2 n3 n4 n5 n6); (have hbl := Below.nw vx (.cells #[.int .i64 0, .int .i64 0] 38)); (have Z := Bx2.new vx (.int .i64 0) (.int .i64 0) 38); (have hzp : vx.heap.size ≠ p := Nat.ne_of_gt cc.lt.1); (have hzn : vx.heap.size ≠ w.heap.size := Nat.ne_of_gt N.1); (have hzw : w.heap.size ≤ vx.heap.size := bb.2.2.2.1); (have hBz : B ≤ vx.heap.size := by have := cc.lt; omega); (replace cc := cc.below hbl); (replace N := N.below hbl); (replace OW := own_belK' OW hbl); (replace bb := bb.trans (But.of_below hbl)); (clear hbl); (generalize vx.heap.size = jz at *); (generalize vx.alloc (.cells #[.int .i64 0, .int .i64 0] 38) = vx at *); (obtain ⟨n0, n1, n2, n3, n4, n5, n6⟩ := id N); (obtain ⟨z0, z1, z2, z3, z4⟩ := id Z)
        refine hK.out _ _ ?_ (fun hHeld => ?_)
        · exact ⟨n1, n2, n3⟩
        clear hK K
        (try simp only [Act.put, List.setIfInBounds_toArray, List.set_cons_zero, List.set_cons_succ])
        refine wpAnyH_ready (rs := [7]) (by kernel_rfl) (by simp) ?_
        refine (AllReadyH.cons (by rw [List.getElem?_toArray]; rfl) (fun K hK => ?_) AllReadyH.nil)
        go_simp
        refine (l1Below_any B p 5 _ cc).mono ?_; rintro e vx ⟨y, rfl, _, _, _, _, nc, nb⟩; (clear n0 n1 n2 n3 n4 n5 n6); (clear z0 z1 z2 z3 z4); (replace cc := nc); (replace N := N.but nb hnp); (replace OW := own_butK OW nb hpo); (replace bb := bb.trans nb); (replace Z := Z.but nb hzp); (clear nc nb); (obtain ⟨n0, n1, n2, n3, n4, n5, n6⟩ := id N); (obtain ⟨z0, z1, z2, z3, z4⟩ := id Z)
        (try go_wp2_with fail)
        refine hK.out _ _ ?_ (fun hHeld => ?_)
        · exact ⟨n1, n2, n3⟩
        clear hK K
        (try simp only [Act.put, List.setIfInBounds_toArray, List.set_cons_zero, List.set_cons_succ])
        refine wpAnyH_ready (rs := [8]) (by kernel_rfl) (by simp) ?_
        refine (AllReadyH.cons (by rw [List.getElem?_toArray]; rfl) (fun K hK => ?_) AllReadyH.nil)
        go_simp
        refine (specOccurrence_any s g A n c M x y vx hmn (ownS OW)).mono ?_; rintro e vx ⟨rfl, hbl⟩; (clear n0 n1 n2 n3 n4 n5 n6); (clear z0 z1 z2 z3 z4); (replace cc := cc.below hbl); (replace N := N.below hbl); (replace OW := own_belK' OW hbl); (replace bb := bb.trans (But.of_below hbl)); (replace Z := Z.below hbl); (clear hbl); (generalize ocL s g M n x y = X at *); (generalize ocH s g M n x y = Y at *); (generalize ocB s g M n x y = Q at *); (obtain ⟨n0, n1, n2, n3, n4, n5, n6⟩ := id N); (obtain ⟨z0, z1, z2, z3, z4⟩ := id Z)
        (try go_wp2_with fail)
        refine hK.out _ _ ?_ (fun hHeld => ?_)
        · exact ⟨n1, n2, n3⟩
        clear hK K
        (try simp only [Act.put, List.setIfInBounds_toArray, List.set_cons_zero, List.set_cons_succ])
        refine wpAnyH_take (i := 9) (v := ?_) (by rw [List.getElem?_toArray]; rfl) (by kernel_rfl) (by kernel_rfl) (by kernel_rfl) (by intro _ _ _ h; exact h) (Or.inl ⟨by rfl, ?_⟩) (by assumption) ?_
        rotate_left
        · (intro w hSw; (try dsimp only at hSw); go_simp; all_goals with_reducible rfl)
        (try simp only [Act.put, List.setIfInBounds_toArray, List.set_cons_zero, List.set_cons_succ])
        refine wpAnyH_take (i := 10) (v := ?_) (by rw [List.getElem?_toArray]; rfl) (by kernel_rfl) (by kernel_rfl) (by kernel_rfl) (by intro _ _ _ h; exact h) (Or.inl ⟨by rfl, ?_⟩) (by assumption) ?_
        rotate_left
        · (intro w hSw; (try dsimp only at hSw); go_simp; all_goals with_reducible rfl)
        (try simp only [Act.put, List.setIfInBounds_toArray, List.set_cons_zero, List.set_cons_succ])
        refine wpAnyH_take (i := 11) (v := ?_) (by rw [List.getElem?_toArray]; rfl) (by kernel_rfl) (by kernel_rfl) (by kernel_rfl) (by intro _ _ _ h; exact h) (Or.inl ⟨by rfl, ?_⟩) (by assumption) ?_
        rotate_left
        · (intro w hSw; (try dsimp only at hSw); go_simp; all_goals with_reducible rfl)
        (try simp only [Act.put, List.setIfInBounds_toArray, List.set_cons_zero, List.set_cons_succ])
        refine wpAnyH_ready (rs := [13]) (by kernel_rfl) (by simp) ?_
        refine (AllReadyH.cons (by rw [List.getElem?_toArray]; rfl) (fun K hK => ?_) AllReadyH.nil)
        go_simp
        (clear n0 n1 n2 n3 n4 n5 n6); (clear z0 z1 z2 z3 z4); (replace Z := (Z.set0 (.int .i64 X)).set1 (.int .i64 Y)); (replace cc := (cc.setOther hzp hBz 0 (.int .i64 X)).setOther hzp hBz 1 (.int .i64 Y)); (replace bb := (bb.setNew hzw 0 (.int .i64 X)).setNew hzw 1 (.int .i64 Y)); (replace N := (N.setO hzn 0 (.int .i64 X)).setO hzn 1 (.int .i64 Y)); (clear OW); (generalize (vx.setCell ⟨jz, 0, none⟩ (.int .i64 X)).setCell ⟨jz, 1, none⟩ (.int .i64 Y) = vx at *); (obtain ⟨n0, n1, n2, n3, n4, n5, n6⟩ := id N)
        refine hK.out _ _ ?_ (fun hHeld => ?_)
        · exact ⟨n1, n2, n3⟩
        clear hK K
        (try simp only [Act.put, List.setIfInBounds_toArray, List.set_cons_zero, List.set_cons_succ])
        refine wpAnyH_take (i := 14) (v := ?_) (by rw [List.getElem?_toArray]; rfl) (by kernel_rfl) (by kernel_rfl) (by kernel_rfl) (by intro _ _ _ h; exact h) (Or.inl ⟨by rfl, ?_⟩) (by assumption) ?_
        rotate_left
        · (intro w hSw; (try dsimp only at hSw); go_simp; all_goals with_reducible rfl)
        (try simp only [Act.put, List.setIfInBounds_toArray, List.set_cons_zero, List.set_cons_succ])
        refine wpAnyH_done (by kernel_rfl) ?_ _
        go_wp2_with fail
        go_meet
        case rel => exact ⟨jz, X, Y, Q, rfl, rfl, hzp, Z, cc, bb⟩
    · go_simp
      (clear n0 n1 n2 n3 n4 n5 n6); (have hbl := Below.nw vx (.cells #[.int .i64 0, .int .i64 0] 38)); (have Z := Bx2.new vx (.int .i64 0) (.int .i64 0) 38); (have hzp : vx.heap.size ≠ p := Nat.ne_of_gt cc.lt.1); (have hzn : vx.heap.size ≠ w.heap.size := Nat.ne_of_gt N.1); (have hzw : w.heap.size ≤ vx.heap.size := bb.2.2.2.1); (have hBz : B ≤ vx.heap.size := by have := cc.lt; omega); (replace cc := cc.below hbl); (replace N := N.below hbl); (replace OW := own_belK' OW hbl); (replace bb := bb.trans (But.of_below hbl)); (clear hbl); (generalize vx.heap.size = jz at *); (generalize vx.alloc (.cells #[.int .i64 0, .int .i64 0] 38) = vx at *); (obtain ⟨n0, n1, n2, n3, n4, n5, n6⟩ := id N); (obtain ⟨z0, z1, z2, z3, z4⟩ := id Z)
      refine hK.out _ _ ?_ (fun hHeld => ?_)
      · exact ⟨n1, n2, n3⟩
      clear hK K
      (try simp only [Act.put, List.setIfInBounds_toArray, List.set_cons_zero, List.set_cons_succ])
      refine wpAnyH_ready (rs := [5]) (by kernel_rfl) (by simp) ?_
      refine (AllReadyH.cons (by rw [List.getElem?_toArray]; rfl) (fun K hK => ?_) AllReadyH.nil)
      go_simp
      refine (l1Below_any B p (n : Int) _ cc).mono ?_; rintro e vx ⟨x, rfl, _, _, _, _, nc, nb⟩; (clear n0 n1 n2 n3 n4 n5 n6); (clear z0 z1 z2 z3 z4); (replace cc := nc); (replace N := N.but nb hnp); (replace OW := own_butK OW nb hpo); (replace bb := bb.trans nb); (replace Z := Z.but nb hzp); (clear nc nb); (obtain ⟨n0, n1, n2, n3, n4, n5, n6⟩ := id N); (obtain ⟨z0, z1, z2, z3, z4⟩ := id Z)
      (try go_wp2_with fail)
      refine hK.out _ _ ?_ (fun hHeld => ?_)
      · exact ⟨n1, n2, n3⟩
      clear hK K
      (try simp only [Act.put, List.setIfInBounds_toArray, List.set_cons_zero, List.set_cons_succ])
      refine wpAnyH_ready (rs := [7]) (by kernel_rfl) (by simp) ?_
      refine (AllReadyH.cons (by rw [List.getElem?_toArray]; rfl) (fun K hK => ?_) AllReadyH.nil)
      go_simp
      refine (l1Below_any B p 5 _ cc).mono ?_; rintro e vx ⟨y, rfl, _, _, _, _, nc, nb⟩; (clear n0 n1 n2 n3 n4 n5 n6); (clear z0 z1 z2 z3 z4); (replace cc := nc); (replace N := N.but nb hnp); (replace OW := own_butK OW nb hpo); (replace bb := bb.trans nb); (replace Z := Z.but nb hzp); (clear nc nb); (obtain ⟨n0, n1, n2, n3, n4, n5, n6⟩ := id N); (obtain ⟨z0, z1, z2, z3, z4⟩ := id Z)
      (try go_wp2_with fail)
      refine hK.out _ _ ?_ (fun hHeld => ?_)
      · exact ⟨n1, n2, n3⟩
      clear hK K
      (try simp only [Act.put, List.setIfInBounds_toArray, List.set_cons_zero, List.set_cons_succ])
      refine wpAnyH_ready (rs := [8]) (by kernel_rfl) (by simp) ?_
      refine (AllReadyH.cons (by rw [List.getElem?_toArray]; rfl) (fun K hK => ?_) AllReadyH.nil)
      go_simp
      refine (specOccurrence_any s g A n c M x y vx hmn (ownS OW)).mono ?_; rintro e vx ⟨rfl, hbl⟩; (clear n0 n1 n2 n3 n4 n5 n6); (clear z0 z1 z2 z3 z4); (replace cc := cc.below hbl); (replace N := N.below hbl); (replace OW := own_belK' OW hbl); (replace bb := bb.trans (But.of_below hbl)); (replace Z := Z.below hbl); (clear hbl); (generalize ocL s g M n x y = X at *); (generalize ocH s g M n x y = Y at *); (generalize ocB s g M n x y = Q at *); (obtain ⟨n0, n1, n2, n3, n4, n5, n6⟩ := id N); (obtain ⟨z0, z1, z2, z3, z4⟩ := id Z)
      (try go_wp2_with fail)
      refine hK.out _ _ ?_ (fun hHeld => ?_)
      · exact ⟨n1, n2, n3⟩
      clear hK K
      (try simp only [Act.put, List.setIfInBounds_toArray, List.set_cons_zero, List.set_cons_succ])
      refine wpAnyH_take (i := 9) (v := ?_) (by rw [List.getElem?_toArray]; rfl) (by kernel_rfl) (by kernel_rfl) (by kernel_rfl) (by intro _ _ _ h; exact h) (Or.inl ⟨by rfl, ?_⟩) (by assumption) ?_
      rotate_left
      · (intro w hSw; (try dsimp only at hSw); go_simp; all_goals with_reducible rfl)
      (try simp only [Act.put, List.setIfInBounds_toArray, List.set_cons_zero, List.set_cons_succ])
      refine wpAnyH_take (i := 10) (v := ?_) (by rw [List.getElem?_toArray]; rfl) (by kernel_rfl) (by kernel_rfl) (by kernel_rfl) (by intro _ _ _ h; exact h) (Or.inl ⟨by rfl, ?_⟩) (by assumption) ?_
      rotate_left
      · (intro w hSw; (try dsimp only at hSw); go_simp; all_goals with_reducible rfl)
      (try simp only [Act.put, List.setIfInBounds_toArray, List.set_cons_zero, List.set_cons_succ])
      refine wpAnyH_take (i := 11) (v := ?_) (by rw [List.getElem?_toArray]; rfl) (by kernel_rfl) (by kernel_rfl) (by kernel_rfl) (by intro _ _ _ h; exact h) (Or.inl ⟨by rfl, ?_⟩) (by assumption) ?_
      rotate_left
      · (intro w hSw; (try dsimp only at hSw); go_simp; all_goals with_reducible rfl)
      (try simp only [Act.put, List.setIfInBounds_toArray, List.set_cons_zero, List.set_cons_succ])
      refine wpAnyH_ready (rs := [13]) (by kernel_rfl) (by simp) ?_
      refine (AllReadyH.cons (by rw [List.getElem?_toArray]; rfl) (fun K hK => ?_) AllReadyH.nil)
      go_simp
      (clear n0 n1 n2 n3 n4 n5 n6); (clear z0 z1 z2 z3 z4); (replace Z := (Z.set0 (.int .i64 X)).set1 (.int .i64 Y)); (replace cc := (cc.setOther hzp hBz 0 (.int .i64 X)).setOther hzp hBz 1 (.int .i64 Y)); (replace bb := (bb.setNew hzw 0 (.int .i64 X)).setNew hzw 1 (.int .i64 Y)); (replace N := (N.setO hzn 0 (.int .i64 X)).setO hzn 1 (.int .i64 Y)); (clear OW); (generalize (vx.setCell ⟨jz, 0, none⟩ (.int .i64 X)).setCell ⟨jz, 1, none⟩ (.int .i64 Y) = vx at *); (obtain ⟨n0, n1, n2, n3, n4, n5, n6⟩ := id N)
      refine hK.out _ _ ?_ (fun hHeld => ?_)
      · exact ⟨n1, n2, n3⟩
      clear hK K
      (try simp only [Act.put, List.setIfInBounds_toArray, List.set_cons_zero, List.set_cons_succ])
      refine wpAnyH_take (i := 14) (v := ?_) (by rw [List.getElem?_toArray]; rfl) (by kernel_rfl) (by kernel_rfl) (by kernel_rfl) (by intro _ _ _ h; exact h) (Or.inl ⟨by rfl, ?_⟩) (by assumption) ?_
      rotate_left
      · (intro w hSw; (try dsimp only at hSw); go_simp; all_goals with_reducible rfl)
      (try simp only [Act.put, List.setIfInBounds_toArray, List.set_cons_zero, List.set_cons_succ])
      refine wpAnyH_done (by kernel_rfl) ?_ _
      go_wp2_with fail
      go_meet
      case rel => exact ⟨jz, X, Y, Q, rfl, rfl, hzp, Z, cc, bb⟩
  case rest =>
    (clear n0 n1 n2 n3 n4 n5 n6)
    clear N OW cc bb
    obtain ⟨jz, X, Y, Q, rfl, rfl, hzp, Z, cc, bb⟩ := hcut
    generalize wc = v2 at *
    cases Q
    · go_wp2_with fail
      refine (l2DrawCount_any B p _ cc).mono ?_
      rintro e v3 ⟨y, rfl, nc, nb⟩
      have b2 := bb.trans nb
      go_wp2_with fail
      go_ret
      exact ⟨y, rfl, nc, b2⟩
    · go_wp2_with fail
      refine (l1Once_any B p 6 _ cc).mono ?_
      rintro e v3 ⟨oo, rfl, nc, nb⟩
      have Z3 := Z.but nb hzp
      have b3 := bb.trans nb
      clear cc bb nb Z
      cases oo
      · obtain ⟨z0, z1, z2, z3, z4⟩ := id Z3
        go_wp2_with fail
        refine (pick5 B p v3 _ _ _ _ _ nc).mono ?_
        rintro e v4 ⟨y, rfl, nd, nb⟩
        have b4 := b3.trans nb
        clear z0 z1 z2 z3 z4
        go_wp2_with fail
        go_ret
        exact ⟨y, rfl, nd, b4⟩
      · go_wp2_with fail
        refine (l2DrawCount_any B p _ nc).mono ?_
        rintro e v4 ⟨y, rfl, nd, nb⟩
        have b4 := b3.trans nb
        go_wp2_with fail
        go_ret
        exact ⟨y, rfl, nd, b4⟩
set_option maxRecDepth 100000 in
set_option maxHeartbeats 16000000 in
theorem DrawNextOwn_any (a : Option Addr) (l c0 : Nat) (w : World) (hl : l ≤ 1048576) (hcode : CodeB w w.heap.size a l) :
    Calls Try.prog 44 #[.slice a l c0] w fun e w' => ∃ (s g : Int) (A : Option Addr) (n c : Nat) (M : Nat → SlT) (o t : Int), e = .returned (.tuple #[.agg #[.int .i64 s, .int .i64 g, .slice A n c], .int .i64 o, .int .i64 t]) ∧ n ≤ 13 ∧ w'.ownsRow w.heap.size 60 2 (.slice A n c) n (srow M n) ∧ Below w.heap.size w w' := by
  have B := Below.nw w (.cells #[.int .i64 0, .int .i64 0, .slice none 0 0] 29)
  have R := Tx3.new w (.int .i64 0) (.int .i64 0) (.slice none 0 0) 29
  replace hcode := (hcode.below B).more B.size
  go_enter Try.func44, Try.ntmps44
  go_upto_region 1 with fail
  generalize w.alloc (.cells #[.int .i64 0, .int .i64 0, .slice none 0 0] 29) = v at *
  go_wp2_with fail
  refine (l1New_any a l c0 _ hl hcode).mono ?_
  rintro e w1 ⟨p, rfl, cc, nl⟩
  have hq := cc.lt
  have h1p : w.heap.size ≠ p := by have := R.1; omega
  have hwp : w.heap.size ≤ p := by have := B.size; omega
  clear hcode
  replace R := R.below nl
  replace B := B.trans (nl.mono B.size)
  clear nl
  generalize v.heap.size = B0 at *
  have hwo : w.heap.size < w1.heap.size := R.1
  have hpo : p < w1.heap.size := hq.1
  clear hq
  go_wp2_with fail
  refine (l13DrawAny_any B0 p _ cc).mono ?_
  rintro e w2 ⟨s, g, A, n, c, M, rfl, hn13, _, OW, nc, bb⟩
  replace cc := nc
  replace R := R.but bb h1p
  replace B := B.trans (bb.below hwp B.size)
  clear nc bb
  have nl := Below.nw w2 (.cells #[.int .i64 s, .int .i64 g, .slice A n c] 29)
  have KB := Tx3.new w2 (.int .i64 s) (.int .i64 g) (.slice A n c) 29
  have hkp : w2.heap.size ≠ p := Nat.ne_of_gt cc.lt.1
  replace cc := cc.below nl
  replace R := R.below nl
  replace OW := own_belK' OW nl
  replace B := B.trans (nl.mono B.size)
  clear nl
  go_upto_region 3 with fail
  generalize w2.alloc (.cells #[.int .i64 s, .int .i64 g, .slice A n c] 29) = w3 at *
  generalize w2.heap.size = kk at *
  go_wp2_with fail
  refine (l1Below_any B0 p 5 _ cc).mono ?_
  rintro e v6 ⟨ow, rfl, _, _, _, _, nc, bb⟩
  replace cc := nc
  replace R := R.but bb h1p; replace KB := KB.but bb hkp; replace OW := own_butK OW bb hpo; replace B := B.trans (bb.below hwp B.size); clear bb
  clear nc
  (obtain ⟨k0, k1, k2, k3, k4, k5, k6⟩ := id KB); (obtain ⟨r0, r1, r2, r3, r4, r5, r6⟩ := id R)
  go_upto_region 4 with fail
  refine wp_region_held_drew (S := (fun _ => True)) (by kernel_rfl) ?_ (fun hHeld => ?_)
  · trivial
  (clear k0 k1 k2 k3 k4 k5 k6 r0 r1 r2 r3 r4 r5 r6)
  replace R := R.drew
  replace KB := KB.drew
  replace cc : CurOk v6.drew B0 p := cc
  replace OW : v6.drew.ownsRow w1.heap.size 60 2 (.slice A n c) n (srow M n) := OW
  replace B := Below.drew B
  generalize v6.drew = vx at *
  (obtain ⟨k0, k1, k2, k3, k4, k5, k6⟩ := id KB); (obtain ⟨r0, r1, r2, r3, r4, r5, r6⟩ := id R)
  refine wpAnyH_take (i := 1) (v := ?_) (by rw [List.getElem?_toArray]; rfl) (by kernel_rfl) (by kernel_rfl) (by kernel_rfl) (by intro _ _ _ h; exact h) (Or.inl ⟨by rfl, ?_⟩) (by assumption) ?_
  rotate_left
  · (intro w hSw; (try dsimp only at hSw); go_simp; all_goals with_reducible rfl)
  (try simp only [Act.put, List.setIfInBounds_toArray, List.set_cons_zero, List.set_cons_succ])
  refine wpAnyH_take (i := 2) (v := ?_) (by rw [List.getElem?_toArray]; rfl) (by kernel_rfl) (by kernel_rfl) (by kernel_rfl) (by intro _ _ _ h; exact h) (Or.inl ⟨by rfl, ?_⟩) (by assumption) ?_
  rotate_left
  · (intro w hSw; (try dsimp only at hSw); go_simp; all_goals with_reducible rfl)
  (try simp only [Act.put, List.setIfInBounds_toArray, List.set_cons_zero, List.set_cons_succ])
  refine wpAnyH_ready (rs := [0, 3]) (by kernel_rfl) (by simp) ?_
  refine (AllReadyH.cons (by rw [List.getElem?_toArray]; rfl) (fun K hK => ?_) (AllReadyH.cons (by rw [List.getElem?_toArray]; rfl) (fun K hK => ?_) AllReadyH.nil))
  · go_simp
    refine hK.out _ _ ?_ (fun hHeld => ?_)
    · trivial
    clear hK K
    (try simp only [Act.put, List.setIfInBounds_toArray, List.set_cons_zero, List.set_cons_succ])
    refine wpAnyH_ready (rs := [3]) (by kernel_rfl) (by simp) ?_
    refine (AllReadyH.cons (by rw [List.getElem?_toArray]; rfl) (fun K hK => ?_) AllReadyH.nil)
    go_simp
    refine hK.out _ _ ?_ (fun hHeld => ?_)
    · trivial
    clear hK K
    (try simp only [Act.put, List.setIfInBounds_toArray, List.set_cons_zero, List.set_cons_succ])
    refine wpAnyH_ready (rs := [4]) (by kernel_rfl) (by simp) ?_
    refine (AllReadyH.cons (by rw [List.getElem?_toArray]; rfl) (fun K hK => ?_) AllReadyH.nil)
    go_simp
    (clear k0 k1 k2 k3 k4 k5 k6 r0 r1 r2 r3 r4 r5 r6); refine (l13DrawTime_any B0 p w1.heap.size s g A n c M _ cc hn13 hpo OW).mono ?_; rintro e v9 ⟨t, rfl, nc, bb⟩; (replace cc := nc); replace R := R.but bb h1p; replace KB := KB.but bb hkp; replace OW := own_butK OW bb hpo; replace B := B.trans (bb.below hwp B.size); clear bb; (clear nc); (obtain ⟨k0, k1, k2, k3, k4, k5, k6⟩ := id KB); (obtain ⟨r0, r1, r2, r3, r4, r5, r6⟩ := id R)
    (try go_wp2_with fail)
    refine hK.out _ _ ?_ (fun hHeld => ?_)
    · trivial
    clear hK K
    (try simp only [Act.put, List.setIfInBounds_toArray, List.set_cons_zero, List.set_cons_succ])
    refine wpAnyH_ready (rs := [5]) (by kernel_rfl) (by simp) ?_
    refine (AllReadyH.cons (by rw [List.getElem?_toArray]; rfl) (fun K hK => ?_) AllReadyH.nil)
    go_simp
    (clear k0 k1 k2 k3 k4 k5 k6 r0 r1 r2 r3 r4 r5 r6); (have RR := ((R.set0 (.int .i64 s)).set1 (.int .i64 g)).set2 (.slice A n c)); (have OO := own_butK OW (((But.refl w.heap.size v9).setCell 0 (.int .i64 s)).setCell 1 (.int .i64 g) |>.setCell 2 (.slice A n c)) hwo); (have BB := ((B.setCell (p := ⟨w.heap.size, 0, none⟩) (Nat.le_refl _) (.int .i64 s)).setCell (p := ⟨w.heap.size, 1, none⟩) (Nat.le_refl _) (.int .i64 g)).setCell (p := ⟨w.heap.size, 2, none⟩) (Nat.le_refl _) (.slice A n c)); (clear R OW B KB cc); (generalize ((v9.setCell ⟨w.heap.size, 0, none⟩ (.int .i64 s)).setCell ⟨w.heap.size, 1, none⟩ (.int .i64 g)).setCell ⟨w.heap.size, 2, none⟩ (.slice A n c) = vz at *)
    refine hK.out _ _ ?_ (fun hHeld => ?_)
    · trivial
    clear hK K
    (try simp only [Act.put, List.setIfInBounds_toArray, List.set_cons_zero, List.set_cons_succ])
    refine wpAnyH_take (i := 6) (v := ?_) (by rw [List.getElem?_toArray]; rfl) (by kernel_rfl) (by kernel_rfl) (by kernel_rfl) (by intro _ _ _ h; exact h) (Or.inl ⟨by rfl, ?_⟩) (by assumption) ?_
    rotate_left
    · (intro w hSw; (try dsimp only at hSw); go_simp; all_goals with_reducible rfl)
    (try simp only [Act.put, List.setIfInBounds_toArray, List.set_cons_zero, List.set_cons_succ])
    refine wpAnyH_take (i := 7) (v := ?_) (by rw [List.getElem?_toArray]; rfl) (by kernel_rfl) (by kernel_rfl) (by kernel_rfl) (by intro _ _ _ h; exact h) (Or.inl ⟨by rfl, ?_⟩) (by assumption) ?_
    rotate_left
    · (intro w hSw; (try dsimp only at hSw); go_simp; all_goals with_reducible rfl)
    (try simp only [Act.put, List.setIfInBounds_toArray, List.set_cons_zero, List.set_cons_succ])
    refine wpAnyH_done (by kernel_rfl) ?_ _
    go_wp2_with fail
    obtain ⟨r0, r1, r2, r3, r4, r5, r6⟩ := id RR
    exact bodyPost_ret (v := (.tuple #[.agg #[.int .i64 s, .int .i64 g, .slice A n c], .int .i64 ow, .int .i64 t])) (by simp (maxDischargeDepth := 6) [results, Try.results44, go_sem, *]) rfl ⟨s, g, A, n, c, M, ow, t, rfl, hn13, own_baseI OO (Nat.le_of_lt hwo), BB⟩
  · go_simp
    refine hK.out _ _ ?_ (fun hHeld => ?_)
    · trivial
    clear hK K
    (try simp only [Act.put, List.setIfInBounds_toArray, List.set_cons_zero, List.set_cons_succ])
    refine wpAnyH_ready (rs := [0, 4]) (by kernel_rfl) (by simp) ?_
    refine (AllReadyH.cons (by rw [List.getElem?_toArray]; rfl) (fun K hK => ?_) (AllReadyH.cons (by rw [List.getElem?_toArray]; rfl) (fun K hK => ?_) AllReadyH.nil))
    · go_simp
      refine hK.out _ _ ?_ (fun hHeld => ?_)
      · trivial
      clear hK K
      (try simp only [Act.put, List.setIfInBounds_toArray, List.set_cons_zero, List.set_cons_succ])
      refine wpAnyH_ready (rs := [4]) (by kernel_rfl) (by simp) ?_
      refine (AllReadyH.cons (by rw [List.getElem?_toArray]; rfl) (fun K hK => ?_) AllReadyH.nil)
      go_simp
      (clear k0 k1 k2 k3 k4 k5 k6 r0 r1 r2 r3 r4 r5 r6); refine (l13DrawTime_any B0 p w1.heap.size s g A n c M _ cc hn13 hpo OW).mono ?_; rintro e v9 ⟨t, rfl, nc, bb⟩; (replace cc := nc); replace R := R.but bb h1p; replace KB := KB.but bb hkp; replace OW := own_butK OW bb hpo; replace B := B.trans (bb.below hwp B.size); clear bb; (clear nc); (obtain ⟨k0, k1, k2, k3, k4, k5, k6⟩ := id KB); (obtain ⟨r0, r1, r2, r3, r4, r5, r6⟩ := id R)
      (try go_wp2_with fail)
      refine hK.out _ _ ?_ (fun hHeld => ?_)
      · trivial
      clear hK K
      (try simp only [Act.put, List.setIfInBounds_toArray, List.set_cons_zero, List.set_cons_succ])
      refine wpAnyH_ready (rs := [5]) (by kernel_rfl) (by simp) ?_
      refine (AllReadyH.cons (by rw [List.getElem?_toArray]; rfl) (fun K hK => ?_) AllReadyH.nil)
      go_simp
      (clear k0 k1 k2 k3 k4 k5 k6 r0 r1 r2 r3 r4 r5 r6); (have RR := ((R.set0 (.int .i64 s)).set1 (.int .i64 g)).set2 (.slice A n c)); (have OO := own_butK OW (((But.refl w.heap.size v9).setCell 0 (.int .i64 s)).setCell 1 (.int .i64 g) |>.setCell 2 (.slice A n c)) hwo); (have BB := ((B.setCell (p := ⟨w.heap.size, 0, none⟩) (Nat.le_refl _) (.int .i64 s)).setCell (p := ⟨w.heap.size, 1, none⟩) (Nat.le_refl _) (.int .i64 g)).setCell (p := ⟨w.heap.size, 2, none⟩) (Nat.le_refl _) (.slice A n c)); (clear R OW B KB cc); (generalize ((v9.setCell ⟨w.heap.size, 0, none⟩ (.int .i64 s)).setCell ⟨w.heap.size, 1, none⟩ (.int .i64 g)).setCell ⟨w.heap.size, 2, none⟩ (.slice A n c) = vz at *)
      refine hK.out _ _ ?_ (fun hHeld => ?_)
      · trivial
      clear hK K
      (try simp only [Act.put, List.setIfInBounds_toArray, List.set_cons_zero, List.set_cons_succ])
      refine wpAnyH_take (i := 6) (v := ?_) (by rw [List.getElem?_toArray]; rfl) (by kernel_rfl) (by kernel_rfl) (by kernel_rfl) (by intro _ _ _ h; exact h) (Or.inl ⟨by rfl, ?_⟩) (by assumption) ?_
      rotate_left
      · (intro w hSw; (try dsimp only at hSw); go_simp; all_goals with_reducible rfl)
      (try simp only [Act.put, List.setIfInBounds_toArray, List.set_cons_zero, List.set_cons_succ])
      refine wpAnyH_take (i := 7) (v := ?_) (by rw [List.getElem?_toArray]; rfl) (by kernel_rfl) (by kernel_rfl) (by kernel_rfl) (by intro _ _ _ h; exact h) (Or.inl ⟨by rfl, ?_⟩) (by assumption) ?_
      rotate_left
      · (intro w hSw; (try dsimp only at hSw); go_simp; all_goals with_reducible rfl)
      (try simp only [Act.put, List.setIfInBounds_toArray, List.set_cons_zero, List.set_cons_succ])
      refine wpAnyH_done (by kernel_rfl) ?_ _
      go_wp2_with fail
      obtain ⟨r0, r1, r2, r3, r4, r5, r6⟩ := id RR
      exact bodyPost_ret (v := (.tuple #[.agg #[.int .i64 s, .int .i64 g, .slice A n c], .int .i64 ow, .int .i64 t])) (by simp (maxDischargeDepth := 6) [results, Try.results44, go_sem, *]) rfl ⟨s, g, A, n, c, M, ow, t, rfl, hn13, own_baseI OO (Nat.le_of_lt hwo), BB⟩
    · go_simp
      (clear k0 k1 k2 k3 k4 k5 k6 r0 r1 r2 r3 r4 r5 r6); refine (l13DrawTime_any B0 p w1.heap.size s g A n c M _ cc hn13 hpo OW).mono ?_; rintro e v9 ⟨t, rfl, nc, bb⟩; (replace cc := nc); replace R := R.but bb h1p; replace KB := KB.but bb hkp; replace OW := own_butK OW bb hpo; replace B := B.trans (bb.below hwp B.size); clear bb; (clear nc); (obtain ⟨k0, k1, k2, k3, k4, k5, k6⟩ := id KB); (obtain ⟨r0, r1, r2, r3, r4, r5, r6⟩ := id R)
      (try go_wp2_with fail)
      refine hK.out _ _ ?_ (fun hHeld => ?_)
      · trivial
      clear hK K
      (try simp only [Act.put, List.setIfInBounds_toArray, List.set_cons_zero, List.set_cons_succ])
      refine wpAnyH_ready (rs := [0]) (by kernel_rfl) (by simp) ?_
      refine (AllReadyH.cons (by rw [List.getElem?_toArray]; rfl) (fun K hK => ?_) AllReadyH.nil)
      go_simp
      refine hK.out _ _ ?_ (fun hHeld => ?_)
      · trivial
      clear hK K
      (try simp only [Act.put, List.setIfInBounds_toArray, List.set_cons_zero, List.set_cons_succ])
      refine wpAnyH_ready (rs := [5]) (by kernel_rfl) (by simp) ?_
      refine (AllReadyH.cons (by rw [List.getElem?_toArray]; rfl) (fun K hK => ?_) AllReadyH.nil)
      go_simp
      (clear k0 k1 k2 k3 k4 k5 k6 r0 r1 r2 r3 r4 r5 r6); (have RR := ((R.set0 (.int .i64 s)).set1 (.int .i64 g)).set2 (.slice A n c)); (have OO := own_butK OW (((But.refl w.heap.size v9).setCell 0 (.int .i64 s)).setCell 1 (.int .i64 g) |>.setCell 2 (.slice A n c)) hwo); (have BB := ((B.setCell (p := ⟨w.heap.size, 0, none⟩) (Nat.le_refl _) (.int .i64 s)).setCell (p := ⟨w.heap.size, 1, none⟩) (Nat.le_refl _) (.int .i64 g)).setCell (p := ⟨w.heap.size, 2, none⟩) (Nat.le_refl _) (.slice A n c)); (clear R OW B KB cc); (generalize ((v9.setCell ⟨w.heap.size, 0, none⟩ (.int .i64 s)).setCell ⟨w.heap.size, 1, none⟩ (.int .i64 g)).setCell ⟨w.heap.size, 2, none⟩ (.slice A n c) = vz at *)
      refine hK.out _ _ ?_ (fun hHeld => ?_)
      · trivial
      clear hK K
      (try simp only [Act.put, List.setIfInBounds_toArray, List.set_cons_zero, List.set_cons_succ])
      refine wpAnyH_take (i := 6) (v := ?_) (by rw [List.getElem?_toArray]; rfl) (by kernel_rfl) (by kernel_rfl) (by kernel_rfl) (by intro _ _ _ h; exact h) (Or.inl ⟨by rfl, ?_⟩) (by assumption) ?_
      rotate_left
      · (intro w hSw; (try dsimp only at hSw); go_simp; all_goals with_reducible rfl)
      (try simp only [Act.put, List.setIfInBounds_toArray, List.set_cons_zero, List.set_cons_succ])
      refine wpAnyH_take (i := 7) (v := ?_) (by rw [List.getElem?_toArray]; rfl) (by kernel_rfl) (by kernel_rfl) (by kernel_rfl) (by intro _ _ _ h; exact h) (Or.inl ⟨by rfl, ?_⟩) (by assumption) ?_
      rotate_left
      · (intro w hSw; (try dsimp only at hSw); go_simp; all_goals with_reducible rfl)
      (try simp only [Act.put, List.setIfInBounds_toArray, List.set_cons_zero, List.set_cons_succ])
      refine wpAnyH_done (by kernel_rfl) ?_ _
      go_wp2_with fail
      obtain ⟨r0, r1, r2, r3, r4, r5, r6⟩ := id RR
      exact bodyPost_ret (v := (.tuple #[.agg #[.int .i64 s, .int .i64 g, .slice A n c], .int .i64 ow, .int .i64 t])) (by simp (maxDischargeDepth := 6) [results, Try.results44, go_sem, *]) rfl ⟨s, g, A, n, c, M, ow, t, rfl, hn13, own_baseI OO (Nat.le_of_lt hwo), BB⟩
end Go.Proofs.Ytkdbgchmknanlaa
