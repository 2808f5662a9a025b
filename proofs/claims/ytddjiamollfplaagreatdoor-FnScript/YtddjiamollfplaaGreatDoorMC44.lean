/- The library's contracts of strconv and strings at this program. ScriptText (the program). -/
import Derived.Shelf.Strings.BuilderK
import Derived.Shelf.Strings.BuilderF
import Derived.Test.YtddjiamollfplaaGreatDoorMC24
import Derived.Test.YtddjiamollfplaaGreatDoorMC26
namespace Go.Proofs.YtddjiamollfplaaGreatDoor
open Go.Shelf
def fs : Go.Shelf.Ren := ⟨fun | 166 => 44 | 240 => 74 | 276 => 89 | n => n, fun | 70 => 76 | 9 => 9 | 3 => 3 | 75 => 80 | 0 => 0 | 72 => 78 | 37 => 22 | 4 => 4 | 164 => 129 | 80 => 84 | 5 => 5 | n => n, fun | n => n⟩
theorem bstrA : Go.Proofs.Lays.n166 Tryz.prog fs := {
 mixed := by kernel_rfl
 f166 := Tryz.func44.trans (congrArg some (by kernel_rfl))
 f240 := Tryz.func74.trans (congrArg some (by kernel_rfl))
 f276 := Tryz.func89.trans (congrArg some (by kernel_rfl))
 t0 := Tryz.underlying0
 a0 := Tryz.isAgg0
 z0 := Tryz.sizeOf0
 v0 := Tryz.zeroValue0
 t3 := Tryz.underlying3
 a3 := Tryz.isAgg3
 z3 := Tryz.sizeOf3
 v3 := Tryz.zeroValue3
 t4 := Tryz.underlying4
 a4 := Tryz.isAgg4
 z4 := Tryz.sizeOf4
 v4 := Tryz.zeroValue4
 t9 := Tryz.underlying9
 a9 := Tryz.isAgg9
 z9 := Tryz.sizeOf9
 v9 := Tryz.zeroValue9
 t20 := Tryz.underlying20
 a20 := Tryz.isAgg20
 z20 := Tryz.sizeOf20
 v20 := Tryz.zeroValue20
 t37 := Tryz.underlying22
 a37 := Tryz.isAgg22
 z37 := Tryz.sizeOf22
 v37 := Tryz.zeroValue22
 t70 := Tryz.underlying76
 a70 := Tryz.isAgg76
 z70 := Tryz.sizeOf76
 v70 := Tryz.zeroValue76
 t72 := Tryz.underlying78
 a72 := Tryz.isAgg78
 z72 := Tryz.sizeOf78
 v72 := Tryz.zeroValue78
 t75 := Tryz.underlying80
 a75 := Tryz.isAgg80
 z75 := Tryz.sizeOf80
 v75 := Tryz.zeroValue80
 t164 := Tryz.underlying129
 a164 := Tryz.isAgg129
 z164 := Tryz.sizeOf129
 v164 := Tryz.zeroValue129 }
def ed : Go.Shelf.Ren := ⟨fun | 167 => 45 | 240 => 74 | 276 => 89 | n => n, fun | 70 => 76 | 5 => 5 | 75 => 80 | 0 => 0 | 72 => 78 | 37 => 22 | 4 => 4 | 164 => 129 | 80 => 84 | 9 => 9 | n => n, fun | n => n⟩
theorem mJ : Go.Proofs.Lays.n167 Tryz.prog ed := {
 mixed := by kernel_rfl
 f167 := Tryz.func45.trans (congrArg some (by kernel_rfl))
 f240 := Tryz.func74.trans (congrArg some (by kernel_rfl))
 f276 := Tryz.func89.trans (congrArg some (by kernel_rfl))
 t0 := Tryz.underlying0
 a0 := Tryz.isAgg0
 z0 := Tryz.sizeOf0
 v0 := Tryz.zeroValue0
 t4 := Tryz.underlying4
 a4 := Tryz.isAgg4
 z4 := Tryz.sizeOf4
 v4 := Tryz.zeroValue4
 t5 := Tryz.underlying5
 a5 := Tryz.isAgg5
 z5 := Tryz.sizeOf5
 v5 := Tryz.zeroValue5
 t9 := Tryz.underlying9
 a9 := Tryz.isAgg9
 z9 := Tryz.sizeOf9
 v9 := Tryz.zeroValue9
 t20 := Tryz.underlying20
 a20 := Tryz.isAgg20
 z20 := Tryz.sizeOf20
 v20 := Tryz.zeroValue20
 t37 := Tryz.underlying22
 a37 := Tryz.isAgg22
 z37 := Tryz.sizeOf22
 v37 := Tryz.zeroValue22
 t70 := Tryz.underlying76
 a70 := Tryz.isAgg76
 z70 := Tryz.sizeOf76
 v70 := Tryz.zeroValue76
 t72 := Tryz.underlying78
 a72 := Tryz.isAgg78
 z72 := Tryz.sizeOf78
 v72 := Tryz.zeroValue78
 t75 := Tryz.underlying80
 a75 := Tryz.isAgg80
 z75 := Tryz.sizeOf80
 v75 := Tryz.zeroValue80
 t164 := Tryz.underlying129
 a164 := Tryz.isAgg129
 z164 := Tryz.sizeOf129
 v164 := Tryz.zeroValue129 }
def dm : Go.Shelf.Ren := ⟨fun | 169 => 47 | n => n, fun | 70 => 76 | 9 => 9 | 0 => 0 | 72 => 78 | 37 => 22 | 127 => 120 | 3 => 3 | 5 => 5 | n => n, fun | n => n⟩
theorem kt : Go.Proofs.Lays.n169 Tryz.prog dm := {
 mixed := by kernel_rfl
 f169 := Tryz.func47.trans (congrArg some (by kernel_rfl))
 t0 := Tryz.underlying0
 a0 := Tryz.isAgg0
 z0 := Tryz.sizeOf0
 v0 := Tryz.zeroValue0
 t3 := Tryz.underlying3
 a3 := Tryz.isAgg3
 z3 := Tryz.sizeOf3
 v3 := Tryz.zeroValue3
 t9 := Tryz.underlying9
 a9 := Tryz.isAgg9
 z9 := Tryz.sizeOf9
 v9 := Tryz.zeroValue9
 t37 := Tryz.underlying22
 a37 := Tryz.isAgg22
 z37 := Tryz.sizeOf22
 v37 := Tryz.zeroValue22
 t70 := Tryz.underlying76
 a70 := Tryz.isAgg76
 z70 := Tryz.sizeOf76
 v70 := Tryz.zeroValue76
 t72 := Tryz.underlying78
 a72 := Tryz.isAgg78
 z72 := Tryz.sizeOf78
 v72 := Tryz.zeroValue78
 t127 := Tryz.underlying120
 a127 := Tryz.isAgg120
 z127 := Tryz.sizeOf120
 v127 := Tryz.zeroValue120 }
def j1 : Go.Shelf.Ren := ⟨fun | 170 => 46 | n => n, fun | 70 => 76 | 3 => 3 | 0 => 0 | 72 => 78 | 37 => 22 | 5 => 5 | n => n, fun | n => n⟩
theorem blenA : Go.Proofs.Lays.n170 Tryz.prog j1 := {
 mixed := by kernel_rfl
 f170 := Tryz.func46.trans (congrArg some (by kernel_rfl))
 t0 := Tryz.underlying0
 a0 := Tryz.isAgg0
 z0 := Tryz.sizeOf0
 v0 := Tryz.zeroValue0
 t3 := Tryz.underlying3
 a3 := Tryz.isAgg3
 z3 := Tryz.sizeOf3
 v3 := Tryz.zeroValue3
 t37 := Tryz.underlying22
 a37 := Tryz.isAgg22
 z37 := Tryz.sizeOf22
 v37 := Tryz.zeroValue22
 t70 := Tryz.underlying76
 a70 := Tryz.isAgg76
 z70 := Tryz.sizeOf76
 v70 := Tryz.zeroValue76
 t72 := Tryz.underlying78
 a72 := Tryz.isAgg78
 z72 := Tryz.sizeOf78
 v72 := Tryz.zeroValue78 }
theorem bstrX : Builder.Extra Tryz.prog fs := {
 sizeBuilder := by kernel_rfl
 liesBuilder := by kernel_rfl
 t5 := Tryz.underlying5
 a5 := Tryz.isAgg5
 z5 := Tryz.sizeOf5
 v5 := Tryz.zeroValue5
 infoByte := by kernel_rfl
 cellsByte := by kernel_rfl
 sizeByte := by kernel_rfl
 neB5 := by decide }
theorem mK : Builder.Extra Tryz.prog ed := {
 sizeBuilder := by kernel_rfl
 liesBuilder := by kernel_rfl
 t5 := Tryz.underlying5
 a5 := Tryz.isAgg5
 z5 := Tryz.sizeOf5
 v5 := Tryz.zeroValue5
 infoByte := by kernel_rfl
 cellsByte := by kernel_rfl
 sizeByte := by kernel_rfl
 neB5 := by decide }
theorem ku : Builder.Extra Tryz.prog dm := {
 sizeBuilder := by kernel_rfl
 liesBuilder := by kernel_rfl
 t5 := Tryz.underlying5
 a5 := Tryz.isAgg5
 z5 := Tryz.sizeOf5
 v5 := Tryz.zeroValue5
 infoByte := by kernel_rfl
 cellsByte := by kernel_rfl
 sizeByte := by kernel_rfl
 neB5 := by decide }
end Go.Proofs.YtddjiamollfplaaGreatDoor
namespace Go.Proofs.YtddjiamollfplaaGreatDoor
open Go.RowKit
set_option linter.unusedVariables false

def BdT (w : World) (b : Nat) (s : ByteArray) : Prop := Go.Lib.IsBuilder 78 5 b b (Go.Lib.byteCells s.data.toList) w
theorem BdT.below {w w' : World} {b : Nat} {s : ByteArray} (h : BdT w b s) (hb : Below w.heap.size w w') : BdT w' b s := by
 have go : ∀ p, Go.Lib.BuilderAt 78 5 b b p (Go.Lib.byteCells s.data.toList) w → Go.Lib.BuilderAt 78 5 b b p (Go.Lib.byteCells s.data.toList) w' := by
  intro p h
  have hl := h.lt
  obtain ⟨h1, v, h2, h3, h4⟩ := h
  exact ⟨h1, v, by rw [hb.block _ hl]; exact h2, ax h3 hb, h4⟩
 rcases h with h | h
 ·exact .inl (go _ h)
 ·exact .inr (go _ h)
theorem BdT.lt {w : World} {b : Nat} {s : ByteArray} (h : BdT w b s) : b < w.heap.size := by
 rcases h with h | h
 ·exact h.lt
 ·exact h.lt
theorem BdT.new (w : World) : BdT (w.alloc (.cells #[.pointer none, .slice none 0 0] 78)) w.heap.size ⟨#[]⟩ := Go.Lib.fresh_isBuilder 78 5 w
theorem ft (s t : ByteArray) : Go.Lib.byteCells (s ++ t).data.toList = Go.Lib.byteCells s.data.toList ++ Go.Lib.strCells t := by
 rw [Go.Lib.strCells_eq, ByteArray.data_append, Array.toList_append]
 simp only [Go.Lib.byteCells, List.map_append]
theorem j0 (b : Nat) (s t : ByteArray) (w : World) (h : BdT w b s) (hs : s.size ≤ 1000000) (ht : t.size ≤ 1000000) :
 Calls Tryz.prog 44 #[.pointer (some ⟨b, 0, none⟩), .string t] w fun e w' => e = .returned (.tuple #[.int .i64 t.size, .nilIface]) ∧ BdT w' b (s ++ t) ∧ Below b w w' := by
 have q := Any.Builder_WriteString bstrA bstrX b b (Go.Lib.byteCells s.data.toList) t w h (by rw [Go.Lib.byteCells_length, Array.length_toList]; have : s.data.size = s.size := rfl; omega) (Nat.le_of_lt h.lt)
 change Calls Tryz.prog 44 _ _ _ at q
 refine q.mono ?_
 rintro e w' ⟨h1, h2, h3⟩
 refine ⟨h1, .inr ?_, h3⟩
 rw [ft]
 exact h2
theorem lV (b : Nat) (s : ByteArray) (w : World) (h : BdT w b s) (hs : s.size ≤ 1000000) :
 Calls Tryz.prog 45 #[.pointer (some ⟨b, 0, none⟩), .int .u8 10] w fun e w' => e = .returned .nilIface ∧ BdT w' b (s ++ ⟨#[10]⟩) ∧ Below b w w' := by
 have q := Any.Builder_WriteByte mJ mK b b (Go.Lib.byteCells s.data.toList) 10 w h (by rw [Go.Lib.byteCells_length, Array.length_toList]; have : s.data.size = s.size := rfl; omega) (Nat.le_of_lt h.lt)
 change Calls Tryz.prog 45 _ _ _ at q
 refine q.mono ?_
 rintro e w' ⟨h1, h2, h3⟩
 refine ⟨h1, .inr ?_, h3⟩
 rw [ft]
 exact h2
theorem mL (b : Nat) (s : ByteArray) (w : World) (h : BdT w b s) :
 Calls Tryz.prog 46 #[.pointer (some ⟨b, 0, none⟩)] w fun e w' => e = .returned (.int .i64 s.size) ∧ w' = w := by
 have q := Any.Builder_Len blenA b b (Go.Lib.byteCells s.data.toList) w h
 change Calls Tryz.prog 46 _ _ _ at q
 refine q.mono ?_
 rintro e w' ⟨h1, h2⟩
 refine ⟨?_, h2⟩
 rw [h1, Go.Lib.byteCells_length, Array.length_toList]
 rfl
theorem lW (b : Nat) (s : ByteArray) (w : World) (h : BdT w b s) :
 Calls Tryz.prog 47 #[.pointer (some ⟨b, 0, none⟩)] w fun e w' => e = .returned (.string s) ∧ Below b w w' := by
 have q := Any.Builder_String_any kt ku b b s.data.toList w h (Nat.le_of_lt h.lt)
 change Calls Tryz.prog 47 _ _ _ at q
 refine q.mono ?_
 rintro e w' ⟨h1, h2⟩
 exact ⟨h1, h2⟩
theorem j5 (A : Array Value) (x : OpD) (w : World) (E0 : T10 w) (E : OpW w) (h : OdS w A x) :
 Calls Tryz.prog 7 #[.agg A] w fun e w' => e = .returned (.tuple #[.string (oL x), .bool (oB x)]) ∧ Below w.heap.size w w' := by
 obtain ⟨p, c, rfl, hl, h1⟩ := h
 exact em x.k x.nd x.tt x.a x.b x.tx p x.n c x.f w E0 E hl.1 hl.2 h1
set_option maxHeartbeats 1000000 in
theorem dV (a : Option Addr) (n c : Nat) (XM : Nat → OpD) (w : World) (hm : n ≤ maxLen) (hn : 200 < n) :
 Calls Tryz.prog 15 #[.slice a n c] w fun e w' => e = .returned (.tuple #[.string (scO XM n), .bool (scB XM n)]) ∧ Below w.heap.size w w' := by
 unfold maxLen at hm
 have hd : (200 : Int) < (n : Int) := by omega
 have HN : Hid (scB XM n = false) := ij hn
 go_enter Tryz.func15, Tryz.ntmps15
 go_wp2_with fail
 go_ret2
 exact ⟨congrArg _ (b9 HN.out), Below.refl _ _⟩
attribute [-go_sem] loadCells storeCells in
set_option maxRecDepth 100000 in
set_option maxHeartbeats 8000000 in
theorem dW (a : Option Addr) (n c : Nat) (XM : Nat → OpD) (w : World) (hn : n ≤ 200) (E : T10 w ∧ OpW w) (hr : RwP OdS w a n XM) :
 Calls Tryz.prog 15 #[.slice a n c] w fun e w' => e = .returned (.tuple #[.string (scO XM n), .bool (scB XM n)]) ∧ Below w.heap.size w w' := by
 have HE : Hid (T10 w ∧ OpW w) := E
 have HR : Hid (n ≠ 0 → ∃ b off AM, a = some ⟨b, off, none⟩ ∧ CsP w b off n AM ∧ ∀ i, i < n → OdS w (AM i) (XM i)) := fun h0 => by
  rcases hr with h | h
  ·exact absurd h h0
  ·exact h
 have hd : ¬ (200 : Int) < (n : Int) := by omega
 clear hr E
 have N := BdT.new w
 have B := Below.nw w (.cells #[.pointer none, .slice none 0 0] 78)
 go_enter Tryz.func15, Tryz.ntmps15
 go_wp2_with fail
 clear hd
 go_loopw [14] (fun i wr => ∃ k : Nat, k ≤ n ∧ i = .int .i64 k ∧ BdT wr w.heap.size (scL XM k) ∧ (∀ i, i < k → oB (XM i) = true) ∧ Below w.heap.size w wr) (fun i _ => n - (intOf i).toNat)
 case atStart => exact ⟨0, Nat.zero_le _, rfl, N, fun i hi => absurd hi (Nat.not_lt_zero _), B⟩
 case round =>
  clear N B
  obtain ⟨k, hk, rfl, N, hal, B⟩ := hrel
  have HA : Hid (∀ i, i < k → oB (XM i) = true) := hal
  clear hal
  have hzk := eH XM k
  by_cases hlt : k < n
  ·obtain ⟨b, off, AM, rfl, hC, hQ⟩ := HR.out (by omega)
   have hx := hQ k hlt
   have hxs := hx.size
   have hL := (hC.below B).load (P := Tryz.prog) hlt hxs
   have hli : (k : Int) < (n : Int) := by omega
   have hone : ∀ u ∈ (AM k).toList, u.oneCell' = true := hx.one
   have CT := fun (v : World) (h : Below w.heap.size w v) => j5 (AM k) (XM k) v (HE.out.1.below h) (HE.out.2.below h) (hx.below h)
   have ht := d9 (XM k)
   have HB : Hid (oB (XM k) = false → scB XM n = false) := fun h => jQ hlt h
   have HK : Hid (oB (XM k) = true → ∀ i, i < k + 1 → oB (XM i) = true) := fun h i hi => by
    by_cases e : i = k
    ·subst e; exact h
    ·exact HA.out i (by omega)
   have HS : Hid ((scL XM k ++ oL (XM k)) ++ ⟨#[10]⟩ = scL XM (k + 1)) := rfl
   clear HA hC hQ hx
   generalize AM k = Ak at *
   generalize oL (XM k) = ob at *
   generalize oB (XM k) = bb at *
   generalize scL XM k = sk at *
   have NA := Below.nw wr (.cells #[.int .i64 0, .int .i64 0, .int .i64 0, .int .i64 0, .int .i64 0, .string ⟨#[]⟩, .slice none 0 0] 26)
   have O := Bo.new wr #[.int .i64 0, .int .i64 0, .int .i64 0, .int .i64 0, .int .i64 0, .string ⟨#[]⟩, .slice none 0 0] 26
   have hst : (storeCells ⟨wr.heap.size, 0, none⟩ Ak.toList 0).run Tryz.prog (wr.alloc (.cells #[.int .i64 0, .int .i64 0, .int .i64 0, .int .i64 0, .int .i64 0, .string ⟨#[]⟩, .slice none 0 0] 26)) = .ok () (ac (wr.alloc (.cells #[.int .i64 0, .int .i64 0, .int .i64 0, .int .i64 0, .int .i64 0, .string ⟨#[]⟩, .slice none 0 0] 26)) wr.heap.size 0 Ak.toList) := Bo.store (P := Tryz.prog) (b := 0) Ak.toList 0 0 O rfl (by simp [hxs]) hone
   have O2 := O.putW (U := Ak) (by rw [hxs]; rfl)
   have NB := ai (k := wr.heap.size) Ak.toList wr _ 0 NA (Nat.le_refl _)
   have hL2 := O2.load (P := Tryz.prog) hxs
   go_wp2_with (first | rw [hL] | rw [hst])
   clear hL hst O NA hone
   replace N := N.below NB
   replace B := B.trans (NB.mono B.size)
   clear NB O2
   generalize ac (wr.alloc (.cells #[.int .i64 0, .int .i64 0, .int .i64 0, .int .i64 0, .int .i64 0, .string ⟨#[]⟩, .slice none 0 0] 26)) wr.heap.size 0 Ak.toList = v at *
   go_wp2_with (rw [hL2])
   refine (CT _ B).mono ?_
   rintro e w2 ⟨rfl, hb⟩
   clear hL2 CT
   replace N := N.below hb
   replace B := B.trans (hb.mono B.size)
   clear hb
   cases bb
   ·go_wp2_with fail
    go_ret2
    exact ⟨congrArg _ (b9 (HB.out (by first | trivial | rfl))), B⟩
   ·go_wp2_with fail
    refine (j0 _ _ _ _ N (by omega) (by omega)).mono ?_
    rintro e w3 ⟨rfl, N3, hb⟩
    replace B := B.trans hb
    clear hb N
    have hz3 : (sk ++ ob).size ≤ 1000000 := by rw [ByteArray.size_append]; omega
    have HS2 : Hid (BdT w3 w.heap.size (sk ++ ob)) := N3
    clear N3
    go_wp2_with fail
    refine (lV _ _ _ HS2.out hz3).mono ?_
    rintro e w4 ⟨rfl, N4, hb⟩
    replace B := B.trans hb
    clear hb HS2
    rw [HS.out] at N4
    clear HS
    go_wp2_with fail
    go_roundw
    case rel => exact ⟨k + 1, by omega, by go_num, N4, HK.out (by first | trivial | rfl), B⟩
    case measure => simp [intOf]; omega
  ·have hkn : k = n := by omega
   subst hkn
   have hli : ¬ (k : Int) < (k : Int) := by omega
   have HN : Hid (scB XM k = decide ((scL XM k).size ≤ 20000)) := gh hn HA.out
   clear HA
   have HY : Hid (scB XM k = true → (Value.tuple #[.string (scL XM k), .bool true]) = .tuple #[.string (scO XM k), .bool (scB XM k)]) := dh
   have HZ : Hid (scB XM k = false → (Value.tuple #[.string ⟨#[]⟩, .bool false]) = .tuple #[.string (scO XM k), .bool (scB XM k)]) := b9
   generalize scL XM k = sk at *
   go_wp2_with fail
   refine (mL _ _ _ N).mono ?_
   rintro e w5 ⟨rfl, rfl⟩
   by_cases hbig : (20000 : Int) < (sk.size : Int)
   ·go_wp2_with fail
    go_ret2
    exact ⟨congrArg _ (HZ.out (by rw [HN.out]; exact decide_eq_false (by omega))), B⟩
   ·go_wp2_with fail
    refine (lW _ _ _ N).mono ?_
    rintro e w6 ⟨rfl, hb⟩
    replace B := B.trans hb
    go_wp2_with fail
    go_ret2
    exact ⟨congrArg _ (HY.out (by rw [HN.out]; exact decide_eq_true (by omega))), B⟩
theorem eo (a : Option Addr) (n c : Nat) (XM : Nat → OpD) (w : World) (E : T10 w ∧ OpW w) (hm : n ≤ maxLen) (h : RwP OdS w a n XM) :
 Calls Tryz.prog 15 #[.slice a n c] w fun e w' => e = .returned (.tuple #[.string (scO XM n), .bool (scB XM n)]) ∧ Below w.heap.size w w' := by
 by_cases hn : 200 < n
 ·exact dV a n c XM w hm hn
 ·exact dW a n c XM w (by omega) E h

end Go.Proofs.YtddjiamollfplaaGreatDoor
