/- The contract of impl.SplitMsgs. -/
import Derived.Test.YtbflhhifkhoapaaJ6
import Derived.Deep.DeepCutAuto
import Derived.WalkKit
import Derived.WalkSpells
import Derived.WalkLawsBesides
import Derived.Deep.RegionHeld
namespace Go.Proofs.Ytbflhhifkhoapaa
open Go.RowKit
set_option linter.unusedVariables false
theorem ownM_nil (w : World) (base : Nat) : w.ownsRow base 27 8 (.slice none 0 0) ([] : List MT).length (mvs []) := World.ownsRow_nil w base _ _
theorem own_far {w : World} {base k : Nat} {e : TypeId} {size : Nat} {v : Value} {n : Nat} {xs : List Value} (h : w.ownsRow base e size v n xs) (hk : k < base) (o : Nat) (u : Value) : (w.setCell ⟨k, o, none⟩ u).ownsRow base e size v n xs := ownsRow_setCell_below h hk u
set_option maxHeartbeats 4000000 in
theorem implSplitMsgs_zero (a : Option Addr) (c : Nat) (f : Nat → Int) (w : World) :
    Calls Try.prog 21 #[.slice a 0 c] w fun e w' => ∃ v : Value, e = .returned (.tuple #[v, .int .i64 (spl f 0 40 0).2.1, .int .i64 (spl f 0 40 0).2.2]) ∧ w'.ownsRow w.heap.size 27 8 v (spl f 0 40 0).1.length (mvs (spl f 0 40 0).1) ∧ Below w.heap.size w w' := by
  have HS : Hid (spl f 0 40 0 = ([], 0, 0)) := spl_end (by omega) 40
  have hmf : ∀ (fn : Fn) (first cap : Array Value) (w : World), (Instr.makeFunc fn first cap).run Try.prog w = .ok (.func fn first cap) w := fun _ _ _ _ => rfl
  have K0 : (w.alloc (.cells #[.int .i64 0] 3)).cell? ⟨w.heap.size, 0, none⟩ = some (.int .i64 0) := by simp
  have Z0 : (w.alloc (.cells #[.int .i64 0] 3)).frozen? ⟨w.heap.size, 0, none⟩ = false := by simp
  have B0 := Below.nw w (.cells #[.int .i64 0] 3)
  have S0 : w.heap.size < (w.alloc (.cells #[.int .i64 0] 3)).heap.size := by simp
  have A1 := Below.nw (w.alloc (.cells #[.int .i64 0] 3)) (.cells #[.slice a 0 c, .int .i64 0] 69)
  have K1 := (A1.cell (p := ⟨w.heap.size, 0, none⟩) S0).trans K0
  have Z1 := (A1.frozen (p := ⟨w.heap.size, 0, none⟩) S0).trans Z0
  have B1 := B0.trans (A1.mono B0.size)
  go_enter_defers Try.func21, Try.ntmps21
  go_wp2_with fail
  go_loopw [2, 3] (fun v i wr => i = .int .i64 0 ∧ v = .slice none 0 0 ∧ (w.alloc (.cells #[.int .i64 0] 3)).alloc (.cells #[.slice a 0 c, .int .i64 0] 69) = wr) (fun _ i _ => 0)
  case atStart => exact ⟨rfl, rfl, by first | rfl | trivial⟩
  case round =>
    obtain ⟨rfl, rfl, rfl⟩ := hrel
    have CF : (((w.alloc (.cells #[.int .i64 0] 3)).alloc (.cells #[.slice a 0 c, .int .i64 0] 69)).setCell ⟨w.heap.size, 0, none⟩ (.int .i64 0)).cell? ⟨w.heap.size, 0, none⟩ = some (.int .i64 0) := World.cell?_setCell_same _ _ _ K1
    have BF := B1.setCell (p := ⟨w.heap.size, 0, none⟩) (Nat.le_refl _) (.int .i64 0)
    clear K0 Z0 B0 S0 A1
    generalize (w.alloc (.cells #[.int .i64 0] 3)).alloc (.cells #[.slice a 0 c, .int .i64 0] 69) = wk at *
    go_wp2_with fail
    generalize wk.setCell ⟨w.heap.size, 0, none⟩ (.int .i64 0) = wf at *
    refine leaves_cons (f := 60) (args := #[.pointer (some ⟨w.heap.size, 0, none⟩)]) (by simp) (by simp [go_sem]) ?_
    refine (catch2_idle w.heap.size _).mono ?_
    rintro e u' w'' ⟨rfl, rfl, rfl⟩
    simp [Leaves, settle, results, Try.results21, go_sem, CF]
    exact ⟨_, ⟨rfl, by rw [HS.out]; rfl, by rw [HS.out]⟩, by rw [HS.out]; exact ownM_nil _ _, BF⟩
set_option maxHeartbeats 8000000 in
theorem implSplitMsgs_some (b off n c : Nat) (f : Nat → Int) (w : World) (hn : n ≤ 1048576) (hc : n ≤ c) (hcm : c ≤ maxLen) (hf : Byts w b off n f) (hr : ∀ i, i < n → 0 ≤ f i ∧ f i ≤ 255) :
    Calls Try.prog 21 #[.slice (some ⟨b, off, none⟩) n c] w fun e w' => ∃ v : Value, e = .returned (.tuple #[v, .int .i64 (spl f n 40 0).2.1, .int .i64 (spl f n 40 0).2.2]) ∧ w'.ownsRow w.heap.size 27 8 v (spl f n 40 0).1.length (mvs (spl f n 40 0).1) ∧ Below w.heap.size w w' := by
  obtain ⟨i0, hi, hz0, hz1, hz2⟩ := info_parts infoMsg
  have hmf : ∀ (fn : Fn) (first cap : Array Value) (w : World), (Instr.makeFunc fn first cap).run Try.prog w = .ok (.func fn first cap) w := fun _ _ _ _ => rfl
  have K0 : (w.alloc (.cells #[.int .i64 0] 3)).cell? ⟨w.heap.size, 0, none⟩ = some (.int .i64 0) := by simp
  have Z0 : (w.alloc (.cells #[.int .i64 0] 3)).frozen? ⟨w.heap.size, 0, none⟩ = false := by simp
  have B0 := Below.nw w (.cells #[.int .i64 0] 3)
  have S0 : w.heap.size < (w.alloc (.cells #[.int .i64 0] 3)).heap.size := by simp
  have A1 := Below.nw (w.alloc (.cells #[.int .i64 0] 3)) (.cells #[.slice (some ⟨b, off, none⟩) n c, .int .i64 0] 69)
  have K1 := (A1.cell (p := ⟨w.heap.size, 0, none⟩) S0).trans K0
  have Z1 := (A1.frozen (p := ⟨w.heap.size, 0, none⟩) S0).trans Z0
  have B1 := B0.trans (A1.mono B0.size)
  have bw := hf.1
  have RD1 : Rd ((w.alloc (.cells #[.int .i64 0] 3)).alloc (.cells #[.slice (some ⟨b, off, none⟩) n c, .int .i64 0] 69)) (w.heap.size + 1) (some ⟨b, off, none⟩) n c f 0 := ⟨by simp, by simp, by simp, by simp, by omega, by omega, hc, hcm, .inr ⟨b, off, rfl, hf.below B1 hf.1⟩, (fun b' o' e => by simp at e; omega), hr⟩
  have HG0 : Hid (∀ x : Int, (getI f n x).2.2 = true → 0 ≤ (getI f n x).1 ∧ x < (getI f n x).2.1 ∧ (getI f n x).2.1 ≤ n) := fun x hx => getI_bd (fun i hi => (hr i hi).1) hx
  clear hf hr
  go_enter_defers Try.func21, Try.ntmps21
  go_wp2_with fail
  go_loopw [2, 3] (fun v i wr => ∃ (A : List MT) (x r : Nat), i = .int .i64 x ∧ x ≤ n ∧ r + A.length = 40 ∧ spl f n 40 0 = (A ++ (spl f n r x).1, (spl f n r x).2) ∧ wr.ownsRow (w.heap.size + 2) 27 8 v A.length (mvs A) ∧ Rd wr (w.heap.size + 1) (some ⟨b, off, none⟩) n c f x ∧ wr.cell? ⟨w.heap.size, 0, none⟩ = some (.int .i64 0) ∧ wr.frozen? ⟨w.heap.size, 0, none⟩ = false ∧ Below w.heap.size w wr) (fun _ i _ => n - (intOf i).toNat)
  case atStart => exact ⟨[], 0, 40, rfl, Nat.zero_le _, rfl, rfl, ownM_nil _ _, RD1, K1, Z1, B1⟩
  case round =>
    obtain ⟨A, x, r, rfl, hx, hra, hsp, O, RD, K, Z, B⟩ := hrel
    have HSP : Hid (spl f n 40 0 = (A ++ (spl f n r x).1, (spl f n r x).2)) := hsp
    clear hsp K0 Z0 B0 S0 A1 K1 Z1 B1 RD1
    obtain ⟨aw, cw, rfl, hAc, hAm, -⟩ := ownM_src O
    have hJ1 := RD.1
    have hJ : w.heap.size < wr.heap.size := by omega
    by_cases hlt : x < n
    · have hli : (x : Int) < (n : Int) := by omega
      match r, hra, HSP with
      | 0, hra, HSP =>
        have h40 : ((A.length : Int) == 40) = true := by simp; omega
        have HS : Hid (spl f n 40 0 = (A, x, 6)) := spl_stop HSP.out (spl_full hlt)
        clear HSP
        go_wp2_with fail
        refine (joined_full (w.heap.size + 1) _ _ h40).mono ?_
        rintro e wr' ⟨rfl, hb⟩
        replace K := (hb.cell (o := 0) (show w.heap.size < _ from hJ) (by omega)).trans K
        replace Z := (hb.frozen (o := 0) (show w.heap.size < _ from hJ) (by omega)).trans Z
        replace B := B.trans (hb.below (B := w.heap.size) (by omega) B.size)
        replace O := own_butNe O hb (fun g hg => by have := (O.lt g hg).1; omega)
        clear hb
        (try go_wp2_with fail)
        refine leaves_cons (f := 60) (args := #[.pointer (some ⟨w.heap.size, 0, none⟩)]) (by simp) (by simp [go_sem]) ?_
        refine (catch2_gave w.heap.size 6 0 [] _ K Z).mono ?_
        rintro e u' w'' ⟨rfl, rfl, rfl⟩
        have CF : (wr'.setCell ⟨w.heap.size, 0, none⟩ (.int .i64 6)).cell? ⟨w.heap.size, 0, none⟩ = some (.int .i64 6) := World.cell?_setCell_same _ _ _ K
        have OF := ownB_base (own_far (k := w.heap.size) O (by omega) 0 (.int .i64 6)) (show w.heap.size ≤ w.heap.size + 2 by omega)
        have BF := B.setCell (p := ⟨w.heap.size, 0, none⟩) (Nat.le_refl _) (.int .i64 6)
        clear O B K Z
        generalize wr'.setCell ⟨w.heap.size, 0, none⟩ (.int .i64 6) = wf at *
        simp [Leaves, settle, results, Try.results21, go_sem, CF]
        exact ⟨_, ⟨rfl, by rw [HS.out], by rw [HS.out]⟩, by rw [HS.out]; exact OF, BF⟩
      | r + 1, hra, HSP =>
        have h40 : ((A.length : Int) == 40) = false := by simp; omega
        cases hok : (getI f n x).2.2
        · have HS : Hid (spl f n 40 0 = (A, x, 4)) := spl_stop HSP.out (spl_num hlt hok)
          clear HSP
          go_wp2_with fail
          refine (joined_num (w.heap.size + 1) _ n c f x _ _ RD hok h40).mono ?_
          rintro e wr' ⟨rfl, hb⟩
          replace K := (hb.cell (o := 0) (show w.heap.size < _ from hJ) (by omega)).trans K
          replace Z := (hb.frozen (o := 0) (show w.heap.size < _ from hJ) (by omega)).trans Z
          replace B := B.trans (hb.below (B := w.heap.size) (by omega) B.size)
          replace O := own_butNe O hb (fun g hg => by have := (O.lt g hg).1; omega)
          clear hb
          (try go_wp2_with fail)
          refine leaves_cons (f := 60) (args := #[.pointer (some ⟨w.heap.size, 0, none⟩)]) (by simp) (by simp [go_sem]) ?_
          refine (catch2_gave w.heap.size 4 0 [] _ K Z).mono ?_
          rintro e u' w'' ⟨rfl, rfl, rfl⟩
          have CF : (wr'.setCell ⟨w.heap.size, 0, none⟩ (.int .i64 4)).cell? ⟨w.heap.size, 0, none⟩ = some (.int .i64 4) := World.cell?_setCell_same _ _ _ K
          have OF := ownB_base (own_far (k := w.heap.size) O (by omega) 0 (.int .i64 4)) (show w.heap.size ≤ w.heap.size + 2 by omega)
          have BF := B.setCell (p := ⟨w.heap.size, 0, none⟩) (Nat.le_refl _) (.int .i64 4)
          clear O B K Z
          generalize wr'.setCell ⟨w.heap.size, 0, none⟩ (.int .i64 4) = wf at *
          simp [Leaves, settle, results, Try.results21, go_sem, CF]
          exact ⟨_, ⟨rfl, by rw [HS.out], by rw [HS.out]⟩, by rw [HS.out]; exact OF, BF⟩
        · have hbd := HG0.out x hok
          obtain ⟨N, hN⟩ := Int.eq_ofNat_of_zero_le hbd.1
          obtain ⟨X, hX⟩ := Int.eq_ofNat_of_zero_le (show 0 ≤ (getI f n x).2.1 by omega)
          have hG : getI f n x = ((N : Int), (X : Int), true) := Prod.ext hN (Prod.ext hX hok)
          rw [hN, hX] at hbd
          obtain ⟨-, hxX, hXn⟩ := hbd
          clear hN hX hok
          by_cases hsh : (n : Int) - X < N
          · have HS : Hid (spl f n 40 0 = (A, x, 1)) := spl_stop HSP.out (spl_short hlt hG hsh)
            have CJ := joined_short (w.heap.size + 1) b off n c X N f x _ _ RD hG hsh h40
            clear HSP hG hsh
            go_wp2_with fail
            refine CJ.mono ?_
            rintro e wr' ⟨rfl, hb⟩
            replace K := (hb.cell (o := 0) (show w.heap.size < _ from hJ) (by omega)).trans K
            replace Z := (hb.frozen (o := 0) (show w.heap.size < _ from hJ) (by omega)).trans Z
            replace B := B.trans (hb.below (B := w.heap.size) (by omega) B.size)
            replace O := own_butNe O hb (fun g hg => by have := (O.lt g hg).1; omega)
            clear hb
            (try go_wp2_with fail)
            refine leaves_cons (f := 60) (args := #[.pointer (some ⟨w.heap.size, 0, none⟩)]) (by simp) (by simp [go_sem]) ?_
            refine (catch2_gave w.heap.size 1 0 [] _ K Z).mono ?_
            rintro e u' w'' ⟨rfl, rfl, rfl⟩
            have CF : (wr'.setCell ⟨w.heap.size, 0, none⟩ (.int .i64 1)).cell? ⟨w.heap.size, 0, none⟩ = some (.int .i64 1) := World.cell?_setCell_same _ _ _ K
            have OF := ownB_base (own_far (k := w.heap.size) O (by omega) 0 (.int .i64 1)) (show w.heap.size ≤ w.heap.size + 2 by omega)
            have BF := B.setCell (p := ⟨w.heap.size, 0, none⟩) (Nat.le_refl _) (.int .i64 1)
            clear O B K Z
            generalize wr'.setCell ⟨w.heap.size, 0, none⟩ (.int .i64 1) = wf at *
            simp [Leaves, settle, results, Try.results21, go_sem, CF]
            exact ⟨_, ⟨rfl, by rw [HS.out], by rw [HS.out]⟩, by rw [HS.out]; exact OF, BF⟩
          · obtain ⟨q, x0, x1, x2, x3, x4, x5, x6, x7, hU⟩ : ∃ (q : Int) (x0 : Int) (x1 : Int) (x2 : Int) (x3 : Int) (x4 : Int) (x5 : Int) (x6 : Int) (x7 : ByteArray), unp (fun i => f (X + i)) N = (q, (x0, x1, x2, x3, x4, x5, x6, x7)) := ⟨_, _, _, _, _, _, _, _, _, rfl⟩
            have hle : X + N ≤ n := by omega
            by_cases hq : q = 0
            · subst hq
              have HG1 : Hid (spl f n 40 0 = ((A ++ [mT x0 x1 x2 x3 x4 x5 x6 x7]) ++ (spl f n r (X + N)).1, (spl f n r (X + N)).2)) := spl_app HSP.out (spl_go hlt hG hsh hU)
              have CJ := joined_ok (w.heap.size + 1) b off n c X N f x _ x0 x1 x2 x3 x4 x5 x6 x7 _ RD hG hsh hU h40 (by omega)
              clear HSP hG hsh hU RD
              go_wp2_with fail
              refine CJ.mono ?_
              rintro e w2 ⟨rfl, RD, hb⟩
              replace K := (hb.cell (o := 0) (show w.heap.size < _ from hJ) (by omega)).trans K
              replace Z := (hb.frozen (o := 0) (show w.heap.size < _ from hJ) (by omega)).trans Z
              replace B := B.trans (hb.below (B := w.heap.size) (by omega) B.size)
              replace O := own_butNe O hb (fun g hg => by have := (O.lt g hg).1; omega)
              have A3 := Below.nw w2 (.cells #[.int .i64 x0, .int .i64 x1, .int .i64 x2, .int .i64 x3, .int .i64 x4, .int .i64 x5, .int .i64 x6, .string x7] 27)
              have hJ2 := RD.1
              have hJs : w.heap.size < w2.heap.size := by omega
              replace K := (A3.cell (p := ⟨w.heap.size, 0, none⟩) hJs).trans K
              replace Z := (A3.frozen (p := ⟨w.heap.size, 0, none⟩) hJs).trans Z
              replace B := B.trans (A3.mono B.size)
              replace O := ownB_below O A3
              replace RD := RD.below A3
              have P3 := Box8.new w2 x0 x1 x2 x3 x4 x5 x6 x7 27
              clear hb CJ A3
              go_upto_region 5 with fail
              generalize w2.alloc (.cells #[.int .i64 x0, .int .i64 x1, .int .i64 x2, .int .i64 x3, .int .i64 x4, .int .i64 x5, .int .i64 x6, .string x7] 27) = w3 at *
              obtain ⟨p0, p1, p2, p3, p4, p5, p6, p7, p8⟩ := P3
              have hJ3 := RD.1
              have hsz : w.heap.size + 2 ≤ (w3.alloc (.cells #[.int .i64 x0, .int .i64 x1, .int .i64 x2, .int .i64 x3, .int .i64 x4, .int .i64 x5, .int .i64 x6, .string x7] 27)).heap.size := by simp; omega
              have A4 := Below.nw w3 (.cells #[.int .i64 x0, .int .i64 x1, .int .i64 x2, .int .i64 x3, .int .i64 x4, .int .i64 x5, .int .i64 x6, .string x7] 27)
              go_upto_region 6 with (at_builtin; refine wpList_append_own _ rfl _ _ 37 rfl (w.heap.size + 2) 27 i0 (.agg #[.int .i64 0, .int .i64 0, .int .i64 0, .int .i64 0, .int .i64 0, .int .i64 0, .int .i64 0, .string ⟨#[]⟩]) 8 72 Try.underlying37 hi hz0 hz1 hz2 rfl (by decide) _ _ _ rfl (World.ownsRow.alloc O _) ⟨w3.heap.size, 0, none⟩ 1 1 [.int .i64 x0, .int .i64 x1, .int .i64 x2, .int .i64 x3, .int .i64 x4, .int .i64 x5, .int .i64 x6, .string x7] rfl rfl (fun j u hj => eight_at w3 _ _ _ _ _ _ _ _ 27 j u hj) (eight_one _ _ _ _ _ _ _ _) (by unfold maxLen; omega) (by omega) hsz ?_; intro v' wn hown' hgrow _)
              have G := grownB_below (World.ownsRow.alloc O _) hgrow hsz
              have RDn := (RD.below A4)
              have RD4 : Rd wn (w.heap.size + 1) (some ⟨b, off, none⟩) n c f ((X : Int) + N) := by
                obtain ⟨h0, h1, h2, h3, h4, h5, h6, h7, h8, h9, h10⟩ := RDn
                refine ⟨Nat.lt_of_lt_of_le h0 G.size, ?_, ?_, ?_, h4, h5, h6, h7, ?_, h9, h10⟩
                · rw [G.cell (p := ⟨w.heap.size + 1, 0, none⟩) (by simp)]; exact h1
                · rw [G.cell (p := ⟨w.heap.size + 1, 1, none⟩) (by simp)]; exact h2
                · rw [G.frozen (p := ⟨w.heap.size + 1, 1, none⟩) (by simp)]; exact h3
                · rcases h8 with q | ⟨b', o', q1, q2⟩
                  · exact .inl q
                  · have := h9 b' o' q1
                    exact .inr ⟨b', o', q1, q2.below G (by omega)⟩
              have K4 := (G.cell (p := ⟨w.heap.size, 0, none⟩) (by simp)).trans ((A4.cell (p := ⟨w.heap.size, 0, none⟩) (show w.heap.size < _ by omega)).trans K)
              have Z4 := (G.frozen (p := ⟨w.heap.size, 0, none⟩) (by simp)).trans ((A4.frozen (p := ⟨w.heap.size, 0, none⟩) (show w.heap.size < _ by omega)).trans Z)
              have B4 := (B.trans (A4.mono B.size)).trans (G.mono (by omega))
              have R4 : wn.ownsRow (w.heap.size + 2) 27 8 v' (A ++ [mT x0 x1 x2 x3 x4 x5 x6 x7]).length (mvs (A ++ [mT x0 x1 x2 x3 x4 x5 x6 x7])) := by rw [mvs_add, List.length_append]; exact hown'
              have r1 := RD4.2.2.1
              have r0 := RD4.1
              clear hown' hgrow G A4 hsz O B K Z RDn RD p0 p1 p2 p3 p4 p5 p6 p7 p8
              go_wp2_with fail
              go_roundw
              case rel => exact ⟨A ++ [mT x0 x1 x2 x3 x4 x5 x6 x7], X + N, r, by simp, hle, by rw [List.length_append]; simp; omega, HG1.out, R4, by simpa using RD4, K4, Z4, B4⟩
              case measure => simp [intOf]; omega
            · have HS : Hid (spl f n 40 0 = (A, x, q)) := spl_stop HSP.out (spl_code (q := q) hlt hG hsh (by rw [hU]) hq)
              have CJ := joined_code (w.heap.size + 1) b off n c X N f x _ q x0 x1 x2 x3 x4 x5 x6 x7 _ RD hG hsh hU hq h40 (by omega)
              clear HSP hG hsh hU
              go_wp2_with fail
              refine CJ.mono ?_
              rintro e wr' ⟨rfl, hb⟩
              replace K := (hb.cell (o := 0) (show w.heap.size < _ from hJ) (by omega)).trans K
              replace Z := (hb.frozen (o := 0) (show w.heap.size < _ from hJ) (by omega)).trans Z
              replace B := B.trans (hb.below (B := w.heap.size) (by omega) B.size)
              replace O := own_butNe O hb (fun g hg => by have := (O.lt g hg).1; omega)
              clear hb
              (try go_wp2_with fail)
              refine leaves_cons (f := 60) (args := #[.pointer (some ⟨w.heap.size, 0, none⟩)]) (by simp) (by simp [go_sem]) ?_
              refine (catch2_gave w.heap.size q 0 [] _ K Z).mono ?_
              rintro e u' w'' ⟨rfl, rfl, rfl⟩
              have CF : (wr'.setCell ⟨w.heap.size, 0, none⟩ (.int .i64 q)).cell? ⟨w.heap.size, 0, none⟩ = some (.int .i64 q) := World.cell?_setCell_same _ _ _ K
              have OF := ownB_base (own_far (k := w.heap.size) O (by omega) 0 (.int .i64 q)) (show w.heap.size ≤ w.heap.size + 2 by omega)
              have BF := B.setCell (p := ⟨w.heap.size, 0, none⟩) (Nat.le_refl _) (.int .i64 q)
              clear O B K Z
              generalize wr'.setCell ⟨w.heap.size, 0, none⟩ (.int .i64 q) = wf at *
              simp [Leaves, settle, results, Try.results21, go_sem, CF]
              exact ⟨_, ⟨rfl, by rw [HS.out], by rw [HS.out]⟩, by rw [HS.out]; exact OF, BF⟩
    · have HS : Hid (spl f n 40 0 = (A, x, 0)) := spl_stop HSP.out (spl_end hlt r)
      have hli : ¬ (x : Int) < (n : Int) := by omega
      clear HSP
      have CF : (wr.setCell ⟨w.heap.size, 0, none⟩ (.int .i64 0)).cell? ⟨w.heap.size, 0, none⟩ = some (.int .i64 0) := World.cell?_setCell_same _ _ _ K
      have OF := ownB_base (own_far (k := w.heap.size) O (by omega) 0 (.int .i64 0)) (show w.heap.size ≤ w.heap.size + 2 by omega)
      have BF := B.setCell (p := ⟨w.heap.size, 0, none⟩) (Nat.le_refl _) (.int .i64 0)
      go_wp2_with fail
      clear O B K Z
      generalize wr.setCell ⟨w.heap.size, 0, none⟩ (.int .i64 0) = wf at *
      refine leaves_cons (f := 60) (args := #[.pointer (some ⟨w.heap.size, 0, none⟩)]) (by simp) (by simp [go_sem]) ?_
      refine (catch2_idle w.heap.size _).mono ?_
      rintro e u' w'' ⟨rfl, rfl, rfl⟩
      simp [Leaves, settle, results, Try.results21, go_sem, CF]
      exact ⟨_, ⟨rfl, by rw [HS.out], by rw [HS.out]⟩, by rw [HS.out]; exact OF, BF⟩
theorem implSplitMsgs_any (a : Option Addr) (n c : Nat) (f : Nat → Int) (w : World) (hn : n ≤ 1048576) (hc : n ≤ c) (hcm : c ≤ maxLen) (hs : SrcB w a n f) (hr : ∀ i, i < n → 0 ≤ f i ∧ f i ≤ 255) :
    Calls Try.prog 21 #[.slice a n c] w fun e w' => ∃ v : Value, e = .returned (.tuple #[v, .int .i64 (spl f n 40 0).2.1, .int .i64 (spl f n 40 0).2.2]) ∧ w'.ownsRow w.heap.size 27 8 v (spl f n 40 0).1.length (mvs (spl f n 40 0).1) ∧ Below w.heap.size w w' := by
  rcases hs with rfl | ⟨b, off, rfl, hf⟩
  · exact implSplitMsgs_zero a c f w
  · exact implSplitMsgs_some b off n c f w hn hc hcm hf hr
end Go.Proofs.Ytbflhhifkhoapaa
