/- The walk of FnFracs. -/
import Derived.Test.YtblappilppfkiaaDoorU111
import Derived.Test.YtblappilppfkiaaDoorU113
import Derived.Test.YtblappilppfkiaaDoorK1
import Derived.Test.YtblappilppfkiaaDoorF126
import Derived.Deep.RegionHeld3
import Derived.Deep.DeepCutAuto
import Derived.WalkKit
import Derived.WalkSpells
import Derived.WalkLawsBesides
import Derived.Deep.RegionHeld
namespace Go.Proofs.YtblappilppfkiaaDoor
open Go.RowKit
set_option linter.unusedVariables false
theorem size_any (x : Int) (w : World) (h : -4000000000000 ≤ x ∧ x ≤ 4000000000000) : Calls Tryd.prog 11 #[.int .i64 x] w fun e w' => e = .returned (.int .i64 (siz x)) ∧ w = w' := by
  unfold siz
  by_cases hx : x < 0
  · rw [if_pos hx]
    go_enter Tryd.func11, Tryd.ntmps11
    go_wp2
    go_ret
    exact ⟨rfl, rfl⟩
  · rw [if_neg hx]
    have hx' : decide (x < 0) = false := decide_eq_false hx
    go_enter Tryd.func11, Tryd.ntmps11
    go_wp2
    go_ret
    exact ⟨rfl, rfl⟩
theorem frac_guard (i j : Nat) (a b p q : Int) (w : World) : (eqGuard .eql 27 (.tmp i) (.tmp j) (.agg #[.int .i64 a, .int .i64 b]) (.agg #[.int .i64 p, .int .i64 q])).run Tryd.prog w = .ok () w := by kernel_rfl
theorem frac_eql (a b p q : Int) (w : World) : (binOp .eql 27 (.agg #[.int .i64 a, .int .i64 b]) (.agg #[.int .i64 p, .int .i64 q])).run Tryd.prog w = .ok (.bool (a == p && b == q)) w := by
  by_cases h : a = p
  · by_cases k : b = q
    · have h' : (a == p) = true := by simp [h]
      have k' : (b == q) = true := by simp [k]
      rw [h', k']
      go_simp
    · have h' : (a == p) = true := by simp [h]
      have k' : (b == q) = false := beq_eq_false_iff_ne.2 k
      rw [h', k']
      go_simp
  · have h' : (a == p) = false := beq_eq_false_iff_ne.2 h
    rw [h']
    go_simp
set_option maxRecDepth 100000 in
set_option maxHeartbeats 16000000 in
theorem walkFracs (a0 : Option Addr) (l0 c0 : Nat) (s : Addr) (w : World) (E : Er w 0 s) (hcode : CodeB w w.heap.size a0 l0) :
    Calls Tryd.prog 3 #[.slice a0 l0 c0] w fun e w' => e = .returned (.bool true) ∧ Below w.heap.size w w' := by
  have HC : Hid (CodeB w w.heap.size a0 l0) := hcode
  clear hcode
  go_enter Tryd.func3, Tryd.ntmps3
  go_wp2_with fail
  refine (big_any _ _ _ _).mono ?_
  rintro e w' ⟨rfl, rfl⟩
  by_cases hbg : 1048576 < (l0 : Int)
  · have hbd : decide (1048576 < (l0 : Int)) = true := decide_eq_true hbg
    go_wp2
    go_ret
    exact ⟨rfl, Below.refl _ _⟩
  have hbd : decide (1048576 < (l0 : Int)) = false := decide_eq_false hbg
  have hl0 : l0 ≤ 1048576 := by omega
  go_wp2_with fail
  refine (DrawFracOf_any a0 l0 c0 w hl0 HC.out).mono ?_
  rintro e v1 ⟨nu, de, rfl, B⟩
  clear hbd hbg
  have HO : Hid (foB nu de = true → okF (foX nu de) (foY nu de) = true ∧ foX nu de * de = nu * foY nu de ∧ (foX nu de).natAbs ≤ nu.natAbs ∧ (foY nu de).natAbs ≤ de.natAbs ∧ (-4000000000000 ≤ nu ∧ nu ≤ 4000000000000) ∧ (-4000000000000 ≤ de ∧ de ≤ 4000000000000)) := fun h => by
    refine ⟨fo_ok h, fo_worth h, (fo_bd h).1, (fo_bd h).2, ?_⟩
    unfold foB at h
    simp only [Bool.and_eq_true] at h
    exact ⟨szF_t h.1.2, szF_t h.2⟩
  have CI := fun w' E' => implFracOf_any nu de s w' E'
  have CS := fun w' => specFracOf_any nu de w'
  generalize foX nu de = ax at *
  generalize foY nu de = ay at *
  generalize foB nu de = ok at *
  replace E := E.below B
  go_wp2_with fail
  refine (CI _ E).mono ?_
  rintro e v2 ⟨rfl, nl⟩
  replace E := E.below nl
  replace B := B.trans (nl.mono B.size)
  clear nl CI
  have nl := Below.nw v2 (.cells #[.int .i64 ax, .int .i64 ay] 27)
  have KA := Bx2.new v2 (.int .i64 ax) (.int .i64 ay) 27
  replace E := E.below nl
  replace B := B.trans (nl.mono B.size)
  clear nl
  go_upto_region 5 with fail
  generalize v2.alloc (.cells #[.int .i64 ax, .int .i64 ay] 27) = v3 at *
  generalize v2.heap.size = ka at *
  go_wp2_with fail
  refine (CS _).mono ?_
  rintro e v4 ⟨rfl, nl⟩
  replace KA := KA.below nl; replace E := E.below nl; replace B := B.trans (nl.mono B.size); clear nl
  clear CS
  have nl := Below.nw v4 (.cells #[.int .i64 ax, .int .i64 ay] 27)
  replace KA := KA.below nl; replace E := E.below nl; replace B := B.trans (nl.mono B.size); clear nl
  go_upto_region 6 with fail
  generalize v4.alloc (.cells #[.int .i64 ax, .int .i64 ay] 27) = v5 at *
  have hoo : (ok != ok) = false := by simp
  go_wp2_with fail
  refine (DrawFracCmp_any a0 l0 c0 v5 hl0 ((HC.out.below B).more B.size)).mono ?_
  rintro e v6 ⟨x1, y1, x2, y2, rfl, nl⟩
  replace KA := KA.below nl; replace E := E.below nl; replace B := B.trans (nl.mono B.size); clear nl
  clear hoo HC hl0
  have nl := Below.nw v6 (.cells #[.int .i64 x1, .int .i64 y1] 27)
  have KB := Bx2.new v6 (.int .i64 x1) (.int .i64 y1) 27
  replace KA := KA.below nl; replace E := E.below nl; replace B := B.trans (nl.mono B.size); clear nl
  have nl := Below.nw (v6.alloc (.cells #[.int .i64 x1, .int .i64 y1] 27)) (.cells #[.int .i64 x2, .int .i64 y2] 27)
  have KC := Bx2.new (v6.alloc (.cells #[.int .i64 x1, .int .i64 y1] 27)) (.int .i64 x2) (.int .i64 y2) 27
  replace KB := KB.below nl
  replace KA := KA.below nl; replace E := E.below nl; replace B := B.trans (nl.mono B.size); clear nl
  simp only [World.size_alloc] at KC
  go_upto_region 9 with fail
  generalize (v6.alloc (.cells #[.int .i64 x1, .int .i64 y1] 27)).alloc (.cells #[.int .i64 x2, .int .i64 y2] 27) = v at *
  generalize v6.heap.size + 1 = kc at *
  generalize v6.heap.size = kb at *
  go_cut [65] (fun s65 wx => s65 = .bool false ∧ Below v.heap.size v wx)
  case first => as_aux_lemma =>
    clear KB KC
    cases ok
    · go_wp2_with fail
      go_meet
      case rel => exact ⟨rfl, Below.refl _ _⟩
    · obtain ⟨ho, he, hb1, hb2, hn1, hn2⟩ := HO.out rfl
      clear HO
      obtain ⟨g0, g1, g2, g3, g4⟩ := id KA
      have CO := fun w' E' => implFracOk_any ax ay s w' E'
      rw [ho] at CO
      go_wp2_with fail
      refine (CO _ E).mono ?_
      rintro e u1 ⟨rfl, nl⟩
      clear g0 g1 g2 g3 g4
      replace KA := KA.below nl
      have XB := nl
      clear nl CO ho
      go_wp2_with fail
      refine (size_any nu _ hn1).mono ?_
      rintro e w' ⟨rfl, rfl⟩
      by_cases s1 : siz nu < 1000000
      · have s1' : decide (siz nu < 1000000) = true := decide_eq_true s1
        go_wp2_with fail
        refine (size_any de _ hn2).mono ?_
        rintro e w' ⟨rfl, rfl⟩
        by_cases s2 : siz de < 1000000
        · have s2' : decide (siz de < 1000000) = true := decide_eq_true s2
          have i1 := siz_bd s1
          have i2 := siz_bd s2
          have p1 := prod_bd (x := ax) (y := de) (by omega) (by omega) i2.1 i2.2
          have p2 := prod_bd (x := nu) (y := ay) i1.1 i1.2 (by omega) (by omega)
          have q1 : wrap64 (ax * de) = ax * de := Go.IntWalk.wrap64_in _ ⟨by omega, by omega⟩
          have q2 : wrap64 (nu * ay) = nu * ay := Go.IntWalk.wrap64_in _ ⟨by omega, by omega⟩
          have q3 : IntKind.i64.wrap (ax * de) = ax * de := Go.IntWalk.i64_in _ ⟨by omega, by omega⟩
          have q4 : IntKind.i64.wrap (nu * ay) = nu * ay := Go.IntWalk.i64_in _ ⟨by omega, by omega⟩
          have q5 : (ax * de != nu * ay) = false := by rw [he]; simp
          clear p1 p2 i1 i2 he hb1 hb2
          obtain ⟨g0, g1, g2, g3, g4⟩ := id KA
          go_wp2_with fail
          go_meet
          case rel => exact ⟨rfl, XB⟩
        · have s2' : decide (siz de < 1000000) = false := decide_eq_false s2
          go_wp2_with fail
          go_meet
          case rel => exact ⟨rfl, XB⟩
      · have s1' : decide (siz nu < 1000000) = false := decide_eq_false s1
        go_wp2_with fail
        go_meet
        case rel => exact ⟨rfl, XB⟩
  case rest =>
    obtain ⟨rfl, nl⟩ := hcut
    replace KA := KA.below nl; replace KB := KB.below nl; replace KC := KC.below nl; replace E := E.below nl; replace B := B.trans (nl.mono B.size); clear nl
    generalize wc = v at *
    cases h1 : okF x1 y1
    · have CX := fun w' E' => implFracCmp_any x1 y1 x2 y2 s w' E'
      rw [fcI_1 h1] at CX
      obtain ⟨b0, b1, b2, b3, b4⟩ := id KB; obtain ⟨c0, c1, c2, c3, c4⟩ := id KC
      go_wp2_with fail
      refine (specFracOk_any _ _ _).mono ?_
      rintro e u1 ⟨rfl, nl⟩
      rw [h1]
      clear b0 b1 b2 b3 b4 c0 c1 c2 c3 c4
      replace KA := KA.below nl; replace KB := KB.below nl; replace KC := KC.below nl; replace E := E.below nl; replace B := B.trans (nl.mono B.size); clear nl
      obtain ⟨b0, b1, b2, b3, b4⟩ := id KB; obtain ⟨c0, c1, c2, c3, c4⟩ := id KC
      go_wp2_with fail
      refine (CX _ E).mono ?_
      rintro e u2 ⟨rfl, nl⟩
      replace B := B.trans (nl.mono B.size)
      go_wp2_with fail
      go_ret
      exact ⟨rfl, B⟩
    cases h2 : okF x2 y2
    · have CX := fun w' E' => implFracCmp_any x1 y1 x2 y2 s w' E'
      rw [fcI_2 h2] at CX
      obtain ⟨b0, b1, b2, b3, b4⟩ := id KB; obtain ⟨c0, c1, c2, c3, c4⟩ := id KC
      go_wp2_with fail
      refine (specFracOk_any _ _ _).mono ?_
      rintro e u1 ⟨rfl, nl⟩
      rw [h1]
      clear b0 b1 b2 b3 b4 c0 c1 c2 c3 c4
      replace KA := KA.below nl; replace KB := KB.below nl; replace KC := KC.below nl; replace E := E.below nl; replace B := B.trans (nl.mono B.size); clear nl
      obtain ⟨b0, b1, b2, b3, b4⟩ := id KB; obtain ⟨c0, c1, c2, c3, c4⟩ := id KC
      go_wp2_with fail
      refine (specFracOk_any _ _ _).mono ?_
      rintro e u2 ⟨rfl, nl⟩
      rw [h2]
      clear b0 b1 b2 b3 b4 c0 c1 c2 c3 c4
      replace KA := KA.below nl; replace KB := KB.below nl; replace KC := KC.below nl; replace E := E.below nl; replace B := B.trans (nl.mono B.size); clear nl
      obtain ⟨b0, b1, b2, b3, b4⟩ := id KB; obtain ⟨c0, c1, c2, c3, c4⟩ := id KC
      go_wp2_with fail
      refine (CX _ E).mono ?_
      rintro e u3 ⟨rfl, nl⟩
      replace B := B.trans (nl.mono B.size)
      go_wp2_with fail
      go_ret
      exact ⟨rfl, B⟩
    obtain ⟨b0, b1, b2, b3, b4⟩ := id KB; obtain ⟨c0, c1, c2, c3, c4⟩ := id KC
    go_wp2_with fail
    refine (specFracOk_any _ _ _).mono ?_
    rintro e u1 ⟨rfl, nl⟩
    rw [h1]
    clear b0 b1 b2 b3 b4 c0 c1 c2 c3 c4
    replace KA := KA.below nl; replace KB := KB.below nl; replace KC := KC.below nl; replace E := E.below nl; replace B := B.trans (nl.mono B.size); clear nl
    obtain ⟨b0, b1, b2, b3, b4⟩ := id KB; obtain ⟨c0, c1, c2, c3, c4⟩ := id KC
    go_wp2_with fail
    refine (specFracOk_any _ _ _).mono ?_
    rintro e u2 ⟨rfl, nl⟩
    rw [h2]
    clear b0 b1 b2 b3 b4 c0 c1 c2 c3 c4
    replace KA := KA.below nl; replace KB := KB.below nl; replace KC := KC.below nl; replace E := E.below nl; replace B := B.trans (nl.mono B.size); clear nl
    have CX := fun w' E' => implFracCmp_any x1 y1 x2 y2 s w' E'
    have CY := fun w' E' => implFracCmp_any x2 y2 x1 y1 s w' E'
    rw [fcI_t h1 h2] at CX
    rw [fcI_t h2 h1, cmp_opp x1 y1 x2 y2] at CY
    have HE : Hid (cmpF x1 y1 x2 y2 = 0 ↔ (x1 = x2 ∧ y1 = y2)) := ⟨low_same h1 h2, fun h => by rw [h.1, h.2]; exact cmp_self _ _⟩
    have HT : Hid (cmpF x1 y1 x2 y2 = -1 ∨ cmpF x1 y1 x2 y2 = 0 ∨ cmpF x1 y1 x2 y2 = 1) := cmp_three
    have HG : Hid (cmpF x1 y1 x2 y2 = sgn (x1 * y2 - x2 * y1)) := rfl
    have HTR : Hid (ok = true → 0 ≤ cmpF ax ay x1 y1 → 0 ≤ cmpF x1 y1 x2 y2 → 0 ≤ cmpF ax ay x2 y2) := fun hk g1 g2 => by
      have ha := (HO.out hk).1
      obtain ⟨_, hay, _⟩ := okF_t ha
      obtain ⟨_, hb1, _⟩ := okF_t h1
      obtain ⟨_, hc1, _⟩ := okF_t h2
      have t1 : cmpF x2 y2 x1 y1 ≤ 0 := by rw [cmp_opp x1 y1 x2 y2]; omega
      have t2 : cmpF x1 y1 ax ay ≤ 0 := by rw [cmp_opp ax ay x1 y1]; omega
      have := cmp_trans (by omega) (by omega) (by omega) t1 t2
      rw [cmp_opp ax ay x2 y2] at this
      omega
    have CA := fun w' E' => implFracCmp_any ax ay x1 y1 s w' E'
    have CD := fun w' E' => implFracCmp_any ax ay x2 y2 s w' E'
    have HCA : Hid (ok = true → fcI ax ay x1 y1 = cmpF ax ay x1 y1 ∧ fcI ax ay x2 y2 = cmpF ax ay x2 y2) := fun hk => ⟨fcI_t (HO.out hk).1 h1, fcI_t (HO.out hk).1 h2⟩
    obtain ⟨k1, k2, _⟩ := okF_t h1
    obtain ⟨k3, k4, _⟩ := okF_t h2
    clear HO
    generalize cmpF x1 y1 x2 y2 = cm at *
    have HR : cm = -1 ∨ cm = 0 ∨ cm = 1 := HT.out
    have n1 : (cm != -(-cm)) = false := by simp
    have n1' : (cm != cm) = false := by simp
    clear HT
    have SK : Hid (∀ w', Below u2.heap.size u2 w' → (w'.cell? ⟨kb, 0, none⟩ = some (.int .i64 x1) ∧ w'.cell? ⟨kb, 1, none⟩ = some (.int .i64 y1) ∧ w'.cell? ⟨kc, 0, none⟩ = some (.int .i64 x2) ∧ w'.cell? ⟨kc, 1, none⟩ = some (.int .i64 y2))) := fun w' hw => ⟨(KB.below hw).2.1, (KB.below hw).2.2.1, (KC.below hw).2.1, (KC.below hw).2.2.1⟩
    go_upto_region 13 with fail
    go_cut [95] (fun s95 wx => s95 = .bool false ∧ Below u2.heap.size u2 wx)
    case first =>

      have HQ : Hid (((cm == 0) != (x1 == x2 && y1 == y2)) = false) := by
        rw [Hid]
        by_cases hz : cm = 0
        · obtain ⟨e1, e2⟩ := HE.out.1 hz
          rw [hz, e1, e2]
          simp
        · have : (cm == 0) = false := beq_eq_false_iff_ne.2 hz
          rw [this]
          have hne : ¬ (x1 = x2 ∧ y1 = y2) := fun h => hz (HE.out.2 h)
          by_cases he : x1 = x2
          · have h2' : (y1 == y2) = false := beq_eq_false_iff_ne.2 fun h => hne ⟨he, h⟩
            rw [h2']
            simp
          · have h2' : (x1 == x2) = false := beq_eq_false_iff_ne.2 he
            rw [h2']
            simp
      have fg := frac_guard
      have fe := fun w' => frac_eql x1 y1 x2 y2 w'
      generalize (x1 == x2 && y1 == y2) = eq2 at *
      clear HE HG HTR HCA CA CD
      have hwc : IntKind.i64.wrap cm = cm := Go.IntWalk.i64_in _ ⟨by omega, by omega⟩
      have hwd : wrap64 cm = cm := Go.IntWalk.wrap64_in _ ⟨by omega, by omega⟩
      refine wp_region_held_drew (S := (fun w' => w'.cell? ⟨kb, 0, none⟩ = some (.int .i64 x1) ∧ w'.cell? ⟨kb, 1, none⟩ = some (.int .i64 y1) ∧ w'.cell? ⟨kc, 0, none⟩ = some (.int .i64 x2) ∧ w'.cell? ⟨kc, 1, none⟩ = some (.int .i64 y2))) (by kernel_rfl) ?_ (fun hHeld => ?_)
      · first | exact SK.out _ XB | exact SK.out _ (Below.drew (Below.refl _ _))
      have XB : Below u2.heap.size u2 u2.drew := Below.drew (Below.refl _ _)
      generalize u2.drew = vx at *
      refine wpAnyH_take (i := 0) (v := ?_) (by rw [List.getElem?_toArray]; rfl) (by kernel_rfl) (by kernel_rfl) (by kernel_rfl) (by intro _ _ _ h; exact h) (Or.inl ⟨by rfl, ?_⟩) (by assumption) ?_
      rotate_left
      · (intro w hSw; (try dsimp only at hSw); go_simp; all_goals with_reducible rfl)
      (try simp only [Act.put, List.setIfInBounds_toArray, List.set_cons_zero, List.set_cons_succ])
      refine wpAnyH_take (i := 1) (v := ?_) (by rw [List.getElem?_toArray]; rfl) (by kernel_rfl) (by kernel_rfl) (by kernel_rfl) (by intro _ _ _ h; exact h) (Or.inl ⟨by rfl, ?_⟩) (by assumption) ?_
      rotate_left
      · (intro w hSw; (try dsimp only at hSw); go_simp; all_goals with_reducible rfl)
      (try simp only [Act.put, List.setIfInBounds_toArray, List.set_cons_zero, List.set_cons_succ])
      refine wpAnyH_take (i := 3) (v := ?_) (by rw [List.getElem?_toArray]; rfl) (by kernel_rfl) (by kernel_rfl) (by kernel_rfl) (by intro _ _ _ h; exact h) (Or.inl ⟨by rfl, ?_⟩) (by assumption) ?_
      rotate_left
      · (intro w hSw; (try dsimp only at hSw); go_simp; all_goals with_reducible rfl)
      (try simp only [Act.put, List.setIfInBounds_toArray, List.set_cons_zero, List.set_cons_succ])
      refine wpAnyH_take (i := 4) (v := ?_) (by rw [List.getElem?_toArray]; rfl) (by kernel_rfl) (by kernel_rfl) (by kernel_rfl) (by intro _ _ _ h; exact h) (Or.inl ⟨by rfl, ?_⟩) (by assumption) ?_
      rotate_left
      · (intro w hSw; (try dsimp only at hSw); go_simp; all_goals with_reducible rfl)
      (try simp only [Act.put, List.setIfInBounds_toArray, List.set_cons_zero, List.set_cons_succ])
      refine wpAnyH_ready (rs := [2]) (by kernel_rfl) (by simp) ?_
      refine AllReadyH.cons (by rw [List.getElem?_toArray]; rfl) (fun K hK => ?_) AllReadyH.nil
      go_simp
      refine (CX _ (E.below XB)).mono ?_; rintro ee vx ⟨rfl, hbl⟩; (replace XB := XB.trans (hbl.mono XB.size)); clear hbl
      (try go_wp2_with fail)
      refine hK.out _ _ ?_ (fun hHeld => ?_)
      · first | exact SK.out _ XB | exact SK.out _ (Below.drew (Below.refl _ _))
      clear hK K
      (try simp only [Act.put, List.setIfInBounds_toArray, List.set_cons_zero, List.set_cons_succ])
      refine wpAnyH_ready (rs := [5]) (by kernel_rfl) (by simp) ?_
      refine AllReadyH.cons (by rw [List.getElem?_toArray]; rfl) (fun K hK => ?_) AllReadyH.nil
      go_simp
      refine (CY _ (E.below XB)).mono ?_; rintro ee vx ⟨rfl, hbl⟩; (replace XB := XB.trans (hbl.mono XB.size)); clear hbl
      (try go_wp2_with fail)
      refine hK.out _ _ ?_ (fun hHeld => ?_)
      · first | exact SK.out _ XB | exact SK.out _ (Below.drew (Below.refl _ _))
      clear hK K
      (try simp only [Act.put, List.setIfInBounds_toArray, List.set_cons_zero, List.set_cons_succ])
      refine wpAnyH_take (i := 6) (v := ?_) (by rw [List.getElem?_toArray]; rfl) (by kernel_rfl) (by kernel_rfl) (by kernel_rfl) (by intro _ _ _ h; exact h) (Or.inl ⟨by rfl, ?_⟩) (by assumption) ?_
      rotate_left
      · (intro w hSw; (try dsimp only at hSw); go_simp; all_goals with_reducible rfl)
      (try simp only [Act.put, List.setIfInBounds_toArray, List.set_cons_zero, List.set_cons_succ])
      (try simp only [Int.neg_neg, hwc, hwd])
      refine wpAnyH_take (i := 7) (v := ?_) (by rw [List.getElem?_toArray]; rfl) (by kernel_rfl) (by kernel_rfl) (by kernel_rfl) (by intro _ _ _ h; exact h) (Or.inl ⟨by rfl, ?_⟩) (by assumption) ?_
      rotate_left
      · (intro w hSw; (try dsimp only at hSw); go_simp; all_goals with_reducible rfl)
      (try simp only [Act.put, List.setIfInBounds_toArray, List.set_cons_zero, List.set_cons_succ])
      (try simp only [n1'])
      refine wpAnyH_take (i := 8) (v := ?_) (by rw [List.getElem?_toArray]; rfl) (by kernel_rfl) (by kernel_rfl) (by kernel_rfl) (by intro _ _ _ h; exact h) (Or.inl ⟨by rfl, ?_⟩) (by assumption) ?_
      rotate_left
      · (intro w hSw; (try dsimp only at hSw); go_simp; all_goals with_reducible rfl)
      (try simp only [Act.put, List.setIfInBounds_toArray, List.set_cons_zero, List.set_cons_succ])
      refine wpAnyH_take (i := 9) (v := ?_) (by rw [List.getElem?_toArray]; rfl) (by kernel_rfl) (by kernel_rfl) (by kernel_rfl) (by intro _ _ _ h; exact h) (Or.inl ⟨by rfl, ?_⟩) (by assumption) ?_
      rotate_left
      · (intro w hSw; (try dsimp only at hSw); go_simp; all_goals with_reducible rfl)
      (try simp only [Act.put, List.setIfInBounds_toArray, List.set_cons_zero, List.set_cons_succ])
      refine wpAnyH_take (i := 10) (v := ?_) (by rw [List.getElem?_toArray]; rfl) (by kernel_rfl) (by kernel_rfl) (by kernel_rfl) (by intro _ _ _ h; exact h) (Or.inl ⟨by rfl, ?_⟩) (by assumption) ?_
      rotate_left
      · (intro w hSw; (try dsimp only at hSw); go_simp; all_goals with_reducible rfl)
      (try simp only [Act.put, List.setIfInBounds_toArray, List.set_cons_zero, List.set_cons_succ])
      refine wpAnyH_take (i := 13) (v := ?_) (by rw [List.getElem?_toArray]; rfl) (by kernel_rfl) (by kernel_rfl) (by kernel_rfl) (by intro _ _ _ h; exact h) (Or.inl ⟨by rfl, ?_⟩) (by assumption) ?_
      rotate_left
      · (intro w hSw; (try dsimp only at hSw); go_simp; all_goals with_reducible rfl)
      (try simp only [Act.put, List.setIfInBounds_toArray, List.set_cons_zero, List.set_cons_succ])
      refine wpAnyH_take (i := 14) (v := ?_) (by rw [List.getElem?_toArray]; rfl) (by kernel_rfl) (by kernel_rfl) (by kernel_rfl) (by intro _ _ _ h; exact h) (Or.inl ⟨by rfl, ?_⟩) (by assumption) ?_
      rotate_left
      · (intro w hSw; (try dsimp only at hSw); go_simp; all_goals with_reducible rfl)
      (try simp only [Act.put, List.setIfInBounds_toArray, List.set_cons_zero, List.set_cons_succ])
      refine wpAnyH_take (i := 15) (v := ?_) (by rw [List.getElem?_toArray]; rfl) (by kernel_rfl) (by kernel_rfl) (by kernel_rfl) (by intro _ _ _ h; exact h) (Or.inl ⟨by rfl, ?_⟩) (by assumption) ?_
      rotate_left
      · (intro w hSw; (try dsimp only at hSw); go_simp; all_goals with_reducible rfl)
      (try simp only [Act.put, List.setIfInBounds_toArray, List.set_cons_zero, List.set_cons_succ])
      refine wpAnyH_ready (rs := [11]) (by kernel_rfl) (by simp) ?_
      refine AllReadyH.cons (by rw [List.getElem?_toArray]; rfl) (fun K hK => ?_) AllReadyH.nil
      go_simp
      refine (CX _ (E.below XB)).mono ?_; rintro ee vx ⟨rfl, hbl⟩; (replace XB := XB.trans (hbl.mono XB.size)); clear hbl
      (try go_wp2_with fail)
      refine hK.out _ _ ?_ (fun hHeld => ?_)
      · first | exact SK.out _ XB | exact SK.out _ (Below.drew (Below.refl _ _))
      clear hK K
      (try simp only [Act.put, List.setIfInBounds_toArray, List.set_cons_zero, List.set_cons_succ])
      refine wpAnyH_take (i := 12) (v := ?_) (by rw [List.getElem?_toArray]; rfl) (by kernel_rfl) (by kernel_rfl) (by kernel_rfl) (by intro _ _ _ h; exact h) (Or.inl ⟨by rfl, ?_⟩) (by assumption) ?_
      rotate_left
      · (intro w hSw; (try dsimp only at hSw); go_simp; all_goals with_reducible rfl)
      (try simp only [Act.put, List.setIfInBounds_toArray, List.set_cons_zero, List.set_cons_succ])
      refine wpAnyH_take (i := 16) (v := ?_) (by rw [List.getElem?_toArray]; rfl) (by kernel_rfl) (by kernel_rfl) (by kernel_rfl) (by intro _ _ _ h; exact h) (Or.inl ⟨by rfl, ?_⟩) (by assumption) ?_
      rotate_left
      · (intro w hSw; (try dsimp only at hSw); go_simp; all_goals with_reducible rfl)
      (try simp only [Act.put, List.setIfInBounds_toArray, List.set_cons_zero, List.set_cons_succ])
      refine wpAnyH_take (i := 17) (v := ?_) (by rw [List.getElem?_toArray]; rfl) (by kernel_rfl) (by kernel_rfl) (by kernel_rfl) (by intro _ _ _ h; exact h) (Or.inl ⟨by rfl, ?_⟩) (by assumption) ?_
      rotate_left
      · (intro w hSw; (try dsimp only at hSw); go_simp; all_goals with_reducible rfl)
      (try simp only [Act.put, List.setIfInBounds_toArray, List.set_cons_zero, List.set_cons_succ])
      refine wpAnyH_done (by kernel_rfl) ?_ _
      go_wp2_with fail
      go_meet
      case rel => exact ⟨by first | rfl | rw [HQ.out] | (simp only [HQ.out]) | (have := HQ.out; simp_all), XB⟩
    case rest =>
      obtain ⟨rfl, nl⟩ := hcut
      replace KA := KA.below nl; replace KB := KB.below nl; replace KC := KC.below nl; replace E := E.below nl; replace B := B.trans (nl.mono B.size); clear nl
      clear SK CY n1 n1' HE
      generalize wc = v7 at *
      have SM : ∃ sm : Bool, (sm = true → siz x1 < 1000000 ∧ siz x2 < 1000000 ∧ y1 < 1000000 ∧ y2 < 1000000) ∧ sm = (decide (siz x1 < 1000000) && decide (siz x2 < 1000000) && decide (y1 < 1000000) && decide (y2 < 1000000)) := ⟨_, fun h => by simp only [Bool.and_eq_true, decide_eq_true_eq] at h; exact ⟨h.1.1.1, h.1.1.2, h.1.2, h.2⟩, rfl⟩
      obtain ⟨sm, hsm, hse⟩ := SM
      have HSM : Hid (sm = true → siz x1 < 1000000 ∧ siz x2 < 1000000 ∧ y1 < 1000000 ∧ y2 < 1000000) := hsm
      have HSE : Hid (sm = (decide (siz x1 < 1000000) && decide (siz x2 < 1000000) && decide (y1 < 1000000) && decide (y2 < 1000000))) := hse
      clear hsm hse
      go_upto_region 15 with fail
      go_cut [115] (fun s115 wx => s115 = .bool sm ∧ v7 = wx)
      case first => as_aux_lemma =>
        obtain ⟨b0, b1, b2, b3, b4⟩ := id KB; obtain ⟨c0, c1, c2, c3, c4⟩ := id KC
        go_wp2_with fail
        refine (size_any x1 _ k1).mono ?_
        rintro e w' ⟨rfl, rfl⟩
        by_cases s1 : siz x1 < 1000000
        · have s1' : decide (siz x1 < 1000000) = true := decide_eq_true s1
          go_wp2_with fail
          refine (size_any x2 _ k3).mono ?_
          rintro e w' ⟨rfl, rfl⟩
          by_cases s2 : siz x2 < 1000000
          · have s2' : decide (siz x2 < 1000000) = true := decide_eq_true s2
            by_cases s3 : y1 < 1000000
            · have s3' : decide (y1 < 1000000) = true := decide_eq_true s3
              go_wp2_with fail
              go_meet
              case rel => exact ⟨by rw [HSE.out, s1', s2', s3']; rfl, rfl⟩
            · have s3' : decide (y1 < 1000000) = false := decide_eq_false s3
              go_wp2_with fail
              go_meet
              case rel => exact ⟨by rw [HSE.out, s1', s2', s3']; rfl, rfl⟩
          · have s2' : decide (siz x2 < 1000000) = false := decide_eq_false s2
            go_wp2_with fail
            go_meet
            case rel => exact ⟨by rw [HSE.out, s1', s2']; rfl, rfl⟩
        · have s1' : decide (siz x1 < 1000000) = false := decide_eq_false s1
          go_wp2_with fail
          go_meet
          case rel => exact ⟨by rw [HSE.out, s1']; rfl, rfl⟩
      case rest =>
        obtain ⟨rfl, rfl⟩ := hcut
        cases sm
        · clear HSM HSE HG
          cases ok
          · go_wp2_with fail
            go_ret
            exact ⟨rfl, B⟩
          obtain ⟨f1, f2⟩ := HCA.out rfl
          rw [f1] at CA
          rw [f2] at CD
          have HT2 := HTR.out rfl
          clear HTR HCA f1 f2
          generalize cmpF ax ay x1 y1 = ca at *
          generalize cmpF ax ay x2 y2 = cd at *
          have HT3 : Hid (0 ≤ ca → 0 ≤ cm → 0 ≤ cd) := HT2
          clear HT2
          obtain ⟨g0, g1, g2, g3, g4⟩ := id KA
          obtain ⟨b0, b1, b2, b3, b4⟩ := id KB; obtain ⟨c0, c1, c2, c3, c4⟩ := id KC
          by_cases t1 : ca < 0
          · have t1' : decide (ca < 0) = true := decide_eq_true t1
            go_wp2_with fail
            refine (CA _ E).mono ?_
            rintro e u3 ⟨rfl, nl⟩
            replace B := B.trans (nl.mono B.size)
            clear nl
            go_wp2_with fail
            go_ret
            exact ⟨rfl, B⟩
          have t1' : decide (ca < 0) = false := decide_eq_false t1
          go_wp2_with fail
          refine (CA _ E).mono ?_
          rintro e u3 ⟨rfl, nl⟩
          clear g0 g1 g2 g3 g4
          clear b0 b1 b2 b3 b4 c0 c1 c2 c3 c4
          replace KA := KA.below nl; replace KB := KB.below nl; replace KC := KC.below nl; replace E := E.below nl; replace B := B.trans (nl.mono B.size); clear nl
          obtain ⟨b0, b1, b2, b3, b4⟩ := id KB; obtain ⟨c0, c1, c2, c3, c4⟩ := id KC
          by_cases t2 : cm < 0
          · have t2' : decide (cm < 0) = true := decide_eq_true t2
            go_wp2_with fail
            refine (CX _ E).mono ?_
            rintro e u4 ⟨rfl, nl⟩
            replace B := B.trans (nl.mono B.size)
            clear nl
            go_wp2_with fail
            go_ret
            exact ⟨rfl, B⟩
          have t2' : decide (cm < 0) = false := decide_eq_false t2
          have t3 := HT3.out (by omega) (by omega)
          have t3' : decide (0 ≤ cd) = true := decide_eq_true (by omega)
          clear HT3 t3
          go_wp2_with fail
          refine (CX _ E).mono ?_
          rintro e u4 ⟨rfl, nl⟩
          clear b0 b1 b2 b3 b4 c0 c1 c2 c3 c4
          replace KA := KA.below nl; replace KB := KB.below nl; replace KC := KC.below nl; replace E := E.below nl; replace B := B.trans (nl.mono B.size); clear nl
          obtain ⟨b0, b1, b2, b3, b4⟩ := id KB; obtain ⟨c0, c1, c2, c3, c4⟩ := id KC
          obtain ⟨g0, g1, g2, g3, g4⟩ := id KA
          go_wp2_with fail
          refine (CD _ E).mono ?_
          rintro e u5 ⟨rfl, nl⟩
          replace B := B.trans (nl.mono B.size)
          clear nl
          go_wp2_with fail
          go_ret
          exact ⟨rfl, B⟩
        · obtain ⟨s1, s2, s3, s4⟩ := HSM.out rfl
          have i1 := siz_bd s1
          have i2 := siz_bd s2
          have p1 := prod_bd (x := x1) (y := y2) i1.1 i1.2 (by omega) s4
          have p2 := prod_bd (x := x2) (y := y1) i2.1 i2.2 (by omega) s3
          have q1 : wrap64 (x1 * y2) = x1 * y2 := Go.IntWalk.wrap64_in _ ⟨by omega, by omega⟩
          have q2 : wrap64 (x2 * y1) = x2 * y1 := Go.IntWalk.wrap64_in _ ⟨by omega, by omega⟩
          have q3 : IntKind.i64.wrap (x1 * y2) = x1 * y2 := Go.IntWalk.i64_in _ ⟨by omega, by omega⟩
          have q4 : IntKind.i64.wrap (x2 * y1) = x2 * y1 := Go.IntWalk.i64_in _ ⟨by omega, by omega⟩
          have q5 : wrap64 (x1 * y2 - x2 * y1) = x1 * y2 - x2 * y1 := Go.IntWalk.wrap64_in _ ⟨by omega, by omega⟩
          have zz : decide (0 < cm) = decide (x2 * y1 < x1 * y2) := by
            rw [HG.out]
            exact decide_eq_decide.2 ⟨fun h => by have := sgn_gt.1 h; omega, fun h => sgn_gt.2 (by omega)⟩
          clear HSM HSE HTR HCA CA CD s1 s2 s3 s4 i1 i2 p1 p2 HR
          have HG' := HG
          clear HG HG'
          obtain ⟨b0, b1, b2, b3, b4⟩ := id KB; obtain ⟨c0, c1, c2, c3, c4⟩ := id KC
          cases hd : decide (x2 * y1 < x1 * y2)
          · rw [hd] at zz
            go_wp2_with fail
            refine (CX _ E).mono ?_
            rintro e u3 ⟨rfl, nl⟩
            replace B := B.trans (nl.mono B.size)
            clear nl
            go_wp2_with fail
            go_ret
            exact ⟨rfl, B⟩
          · rw [hd] at zz
            go_wp2_with fail
            refine (CX _ E).mono ?_
            rintro e u3 ⟨rfl, nl⟩
            replace B := B.trans (nl.mono B.size)
            clear nl
            go_wp2_with fail
            go_ret
            exact ⟨rfl, B⟩
end Go.Proofs.YtblappilppfkiaaDoor
