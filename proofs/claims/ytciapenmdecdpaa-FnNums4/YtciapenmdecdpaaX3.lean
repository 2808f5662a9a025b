/- The walk of FnNums4. -/
import Derived.Test.YtciapenmdecdpaaX1
import Derived.Test.YtciapenmdecdpaaX2
import Derived.WalkKit
import Derived.WalkSpells
import Derived.WalkLawsBesides
import Derived.Deep.QuietTactic
import Derived.BigQuiet
namespace Go.Proofs.Ytciapenmdecdpaa
open Go.RowKit
set_option linter.unusedVariables false
theorem nB_belowB {w w' : World} {B base : Nat} {e : TypeId} {size : Nat} {v : Value} {n : Nat} {xs : List Value} (h : w.ownsRow base e size v n xs) (hb : Below B w w') (hlt : ∀ g, v.ownBlock = some g → g < B) : w'.ownsRow base e size v n xs := by
  refine ⟨h.1, ?_⟩
  rcases h.2 with h | ⟨g, cap, cur, rfl, h2, h3, h4⟩
  · exact .inl h
  · exact .inr ⟨g, cap, cur, rfl, h2, (hb.block g (hlt g rfl)).trans h3, h4⟩
theorem rng_add {L : List Int} {z : Int} (h : ∀ y ∈ L, 0 ≤ y ∧ y ≤ 255) (z0 : 0 ≤ z) (z1 : z ≤ 255) : ∀ i, i < (L ++ [z]).length → 0 ≤ (L ++ [z]).getD i 0 ∧ (L ++ [z]).getD i 0 ≤ 255 := by
  intro i hi
  have hm : (L ++ [z]).getD i 0 ∈ L ++ [z] := by
    rw [List.getD_eq_getElem?_getD, List.getElem?_eq_getElem hi]; exact List.getElem_mem hi
  generalize (L ++ [z]).getD i 0 = y at *
  rcases List.mem_append.1 hm with k | k
  · exact h _ k
  · simp at k; rw [k]; exact ⟨z0, z1⟩
set_option maxHeartbeats 1000000 in
theorem walkNums4 (a : Option Addr) (n c : Nat) (w : World) (hcode : CodeB w w.heap.size a n) :
    Calls Try.prog 3 #[.slice a n c] w fun e w' => e = .returned (.bool true) ∧ Below w.heap.size w w' := by
  obtain ⟨i0, hi, hz0, hz1, hz2⟩ := info_parts infoByte
  by_cases hbig : (1048576 : Int) < (n : Int)
  · go_enter Try.func3, Try.ntmps3
    go_wp2_with (go_at_call 4; refine (big_any _ _ _ _).mono ?_; rintro e w' ⟨rfl, rfl⟩)
    go_ret
    exact ⟨rfl, Below.refl _ _⟩
  have hd : decide ((1048576 : Int) < (n : Int)) = false := by simp; omega
  have hn : n ≤ 1048576 := by omega
  have HC : Hid (CodeB w w.heap.size a n) := hcode
  clear hcode hbig
  go_enter Try.func3, Try.ntmps3
  go_wp2_with (go_at_call 4; refine (big_any _ _ _ _).mono ?_; rintro e w' ⟨rfl, rfl⟩)
  refine (DrawPutNum_any a n c _ hn HC.out).mono ?_
  rintro e w1 ⟨x, rfl, hx, B1⟩
  go_wp2_with fail
  refine (implPutNum_any x _ hx).mono ?_
  rintro e w2 ⟨vb, rfl, O2, hb⟩
  have B2 := B1.trans (hb.mono B1.size)
  have s1 : w.heap.size ≤ w1.heap.size := B1.size
  have s2 : w1.heap.size ≤ w2.heap.size := hb.size
  clear B1 hb
  by_cases hneg : x < 0
  · have hp : putL x = [] := by rw [putL, if_pos hneg]
    rw [hp] at O2
    obtain ⟨ab, cb, rfl, q1, q2, q3⟩ := ownB_src (L := []) O2
    clear O2 hp q1 q2 q3
    go_wp2_with fail
    go_ret
    exact ⟨rfl, B2⟩
  have hx0 : 0 ≤ x := by omega
  have HGP : Hid (∀ z, getI (fun i => (putL x ++ [z]).getD i 0) (putL x ++ [z]).length 0 = (x, ((putL x).length : Int), true)) := fun z => get_put x z hx0 hx
  have hlen := putL_len x
  have HRG : Hid (∀ z ∈ putL x, 0 ≤ z ∧ z ≤ 255) := putL_rng x
  have CP := fun (w' : World) => implPutNum_any x w' hx
  have CQ := fun (w' : World) => implPutNum_any (x / 3) w' (by omega)
  have hlen3 := putL_mono (x := x / 3) (y := x) (by omega) (by omega)
  generalize putL (x / 3) = L3 at *
  generalize putL x = L at *
  go_wp2_with fail
  refine (at_any a n c 1 w.heap.size _ hn (by omega) (HC.out.below B2)).mono ?_
  rintro e w' ⟨z, rfl, z0, z1, rfl⟩
  have hzw : IntKind.u8.wrap z = z := Go.IntWalk.u8_in _ ⟨by omega, by omega⟩
  have A3 := (Below.refl w2.heap.size w2).alloc (Nat.le_refl _) (.cells #[.int .u8 z] 5)
  have hsz : w1.heap.size ≤ (w2.alloc (.cells #[.int .u8 z] 5)).heap.size := by simp; omega
  go_wp2_with (at_builtin; refine wpList_append_own _ rfl _ _ 22 rfl w1.heap.size 5 i0 (.int .u8 0) 1 1 Try.underlying22 hi hz0 hz1 hz2 rfl (by decide) _ _ _ rfl (World.ownsRow.alloc O2 _) ⟨w2.heap.size, 0, none⟩ 1 1 [.int .u8 z] rfl rfl (fun j u hj => byte_at w2 _ 5 j u hj) (by intro u hu; simp at hu; subst hu; rfl) (by unfold maxLen; omega) (by omega) hsz ?_; intro v' w3 hown' hgrow _)
  have G3 := grownB_below (World.ownsRow.alloc O2 _) hgrow hsz
  have B3 := (B2.trans (A3.mono B2.size)).trans (G3.mono s1)
  have R3 : w3.ownsRow w1.heap.size 5 1 v' (L ++ [z]).length (bts (L ++ [z])) := by rw [bts_add]; simpa using hown'
  have HR : Hid (∀ i, i < (L ++ [z]).length → 0 ≤ (L ++ [z]).getD i 0 ∧ (L ++ [z]).getD i 0 ≤ 255) := rng_add HRG.out z0 z1
  clear hown' hgrow G3 A3 hsz O2 HRG
  obtain ⟨av, cv, rfl, hvc, hvm, SV⟩ := ownB_src R3
  have HV : Hid (SrcB w3 av (L ++ [z]).length fun i => (L ++ [z]).getD i 0) := SV
  have HG1 : Hid (getI (fun i => (L ++ [z]).getD i 0) (L ++ [z]).length 0 = (x, (L.length : Int), true)) := HGP.out z
  have hl1 : (L ++ [z]).length = L.length + 1 := by simp
  have CG : Calls Try.prog 7 #[.slice av (L ++ [z]).length cv, .int .i64 0] w3 fun e w' => e = .returned (.tuple #[.int .i64 x, .int .i64 L.length, .bool true]) ∧ w3 = w' := by
    have := implGetNum_any av (L ++ [z]).length cv 0 (fun i => (L ++ [z]).getD i 0) w3 hvm hvc HV.out HR.out
    rw [HG1.out] at this
    exact this
  generalize (L ++ [z]).length = M at *
  clear SV HV HR HG1 HGP R3 hvc hvm
  go_wp2_with fail
  refine CG.mono ?_
  rintro e w' ⟨rfl, rfl⟩
  clear CG
  go_wp2_with fail
  refine (CP _).mono ?_
  rintro e w4 ⟨v4, rfl, O4, hb⟩
  have B4 := B3.trans (hb.mono B3.size)
  obtain ⟨a4, c4, rfl, q1, q2, q3⟩ := ownB_src O4
  clear hb B3 O4 CP q1 q2 q3
  go_wp2_with fail
  refine (CQ _).mono ?_
  rintro e w5 ⟨v5, rfl, O5, hb⟩
  have B5 := B4.trans (hb.mono B4.size)
  obtain ⟨a5, c5, rfl, q1, q2, q3⟩ := ownB_src O5
  clear hb B4 O5 CQ q1 q2 q3
  have hq : ¬ (L.length : Int) < (L3.length : Int) := by omega
  go_wp2_with fail
  refine (DrawFold_any a n c _ hn ((HC.out.below B5).more B5.size)).mono ?_
  rintro e w6 ⟨t, rfl, hb⟩
  have B6 := B5.trans (hb.mono B5.size)
  clear hb B5
  by_cases ht : -1000000000000 ≤ t ∧ t ≤ 1000000000000
  · have t0 := ht.1
    have t1 := ht.2
    have ⟨hu, hf⟩ := unfold_fold ht
    have CF := fun (w' : World) => implFold_any t w'
    have CU := fun (w' : World) => implUnfold_any (foldI t) w'
    rw [hu] at CU
    generalize foldI t = y at *
    clear hu ht
    go_wp2_with fail
    refine (CF _).mono ?_
    rintro e w' ⟨rfl, rfl⟩
    go_wp2_with fail
    refine (CU _).mono ?_
    rintro e w' ⟨rfl, rfl⟩
    go_wp2_with fail
    refine (CF _).mono ?_
    rintro e w' ⟨rfl, rfl⟩
    go_wp2_with fail
    go_ret
    exact ⟨rfl, B6⟩
  · have CF := fun (w' : World) => implFold_any t w'
    have hz : foldI t = 0 := by rw [foldI, if_neg ht]
    rw [hz] at CF
    clear hz
    by_cases t1 : 1000000000000 < t
    · clear ht
      go_wp2_with fail
      refine (CF _).mono ?_
      rintro e w' ⟨rfl, rfl⟩
      go_wp2_with fail
      go_ret
      exact ⟨rfl, B6⟩
    · have t2 : t < -1000000000000 := by omega
      clear ht
      go_wp2_with fail
      refine (CF _).mono ?_
      rintro e w' ⟨rfl, rfl⟩
      go_wp2_with fail
      go_ret
      exact ⟨rfl, B6⟩
end Go.Proofs.Ytciapenmdecdpaa
