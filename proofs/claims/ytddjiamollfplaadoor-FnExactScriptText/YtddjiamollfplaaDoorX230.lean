/- ScriptText (the program). -/
import Derived.Test.YtddjiamollfplaaDoorX229
import Derived.Test.YtddjiamollfplaaDoorX227
import Derived.Test.YtddjiamollfplaaDoorY22
import Derived.Deep.OwnRows
import Derived.Deep.RegionHeld3
import Derived.WalkKit
import Derived.WalkSpells
import Derived.WalkLawsBesides
import Derived.Deep.RegionHeld
namespace Go.Proofs.YtddjiamollfplaaDoor
open Go.RowKit
set_option linter.unusedVariables false

/- A builder of one's own that holds the bytes of a text. -/
def BdT (w : World) (b : Nat) (s : ByteArray) : Prop := Go.Lib.IsBuilder 109 5 b b (Go.Lib.byteCells s.data.toList) w
theorem BdT.below {w w' : World} {b : Nat} {s : ByteArray} (h : BdT w b s) (hb : Below w.heap.size w w') : BdT w' b s := by
  have go : ∀ p, Go.Lib.BuilderAt 109 5 b b p (Go.Lib.byteCells s.data.toList) w → Go.Lib.BuilderAt 109 5 b b p (Go.Lib.byteCells s.data.toList) w' := by
    intro p h
    have hl := h.lt
    obtain ⟨h1, v, h2, h3, h4⟩ := h
    exact ⟨h1, v, by rw [hb.block _ hl]; exact h2, own_belowG h3 hb, h4⟩
  rcases h with h | h
  · exact .inl (go _ h)
  · exact .inr (go _ h)
theorem BdT.lt {w : World} {b : Nat} {s : ByteArray} (h : BdT w b s) : b < w.heap.size := by
  rcases h with h | h
  · exact h.lt
  · exact h.lt
theorem BdT.new (w : World) : BdT (w.alloc (.cells #[.pointer none, .slice none 0 0] 109)) w.heap.size ⟨#[]⟩ := Go.Lib.fresh_isBuilder 109 5 w
theorem bytes_app (s t : ByteArray) : Go.Lib.byteCells (s ++ t).data.toList = Go.Lib.byteCells s.data.toList ++ Go.Lib.strCells t := by
  rw [Go.Lib.strCells_eq, ByteArray.data_append, Array.toList_append]
  simp only [Go.Lib.byteCells, List.map_append]
theorem bd_string (b : Nat) (s t : ByteArray) (w : World) (h : BdT w b s) (hs : s.size ≤ 1000000) (ht : t.size ≤ 1000000) :
    Calls Tryd.prog 74 #[.pointer (some ⟨b, 0, none⟩), .string t] w fun e w' => e = .returned (.tuple #[.int .i64 t.size, .nilIface]) ∧ BdT w' b (s ++ t) ∧ Below b w w' := by
  have q := Any.Builder_WriteString bstrA bstrX b b (Go.Lib.byteCells s.data.toList) t w h (by rw [Go.Lib.byteCells_length, Array.length_toList]; have : s.data.size = s.size := rfl; omega) (Nat.le_of_lt h.lt)
  change Calls Tryd.prog 74 _ _ _ at q
  refine q.mono ?_
  rintro e w' ⟨h1, h2, h3⟩
  refine ⟨h1, .inr ?_, h3⟩
  rw [bytes_app]
  exact h2
theorem bd_byte (b : Nat) (s : ByteArray) (w : World) (h : BdT w b s) (hs : s.size ≤ 1000000) :
    Calls Tryd.prog 75 #[.pointer (some ⟨b, 0, none⟩), .int .u8 10] w fun e w' => e = .returned .nilIface ∧ BdT w' b (s ++ ⟨#[10]⟩) ∧ Below b w w' := by
  have q := Any.Builder_WriteByte bbyteA bbyteX b b (Go.Lib.byteCells s.data.toList) 10 w h (by rw [Go.Lib.byteCells_length, Array.length_toList]; have : s.data.size = s.size := rfl; omega) (Nat.le_of_lt h.lt)
  change Calls Tryd.prog 75 _ _ _ at q
  refine q.mono ?_
  rintro e w' ⟨h1, h2, h3⟩
  refine ⟨h1, .inr ?_, h3⟩
  rw [bytes_app]
  exact h2
theorem bd_len (b : Nat) (s : ByteArray) (w : World) (h : BdT w b s) :
    Calls Tryd.prog 76 #[.pointer (some ⟨b, 0, none⟩)] w fun e w' => e = .returned (.int .i64 s.size) ∧ w' = w := by
  have q := Any.Builder_Len blenA b b (Go.Lib.byteCells s.data.toList) w h
  change Calls Tryd.prog 76 _ _ _ at q
  refine q.mono ?_
  rintro e w' ⟨h1, h2⟩
  refine ⟨?_, h2⟩
  rw [h1, Go.Lib.byteCells_length, Array.length_toList]
  rfl
theorem bd_text (b : Nat) (s : ByteArray) (w : World) (h : BdT w b s) :
    Calls Tryd.prog 77 #[.pointer (some ⟨b, 0, none⟩)] w fun e w' => e = .returned (.string s) ∧ Below b w w' := by
  have q := Any.Builder_String_any bstringA bstringX b b s.data.toList w h (Nat.le_of_lt h.lt)
  change Calls Tryd.prog 77 _ _ _ at q
  refine q.mono ?_
  rintro e w' ⟨h1, h2⟩
  exact ⟨h1, h2⟩
theorem implLineS (A : Array Value) (x : OpD) (w : World) (E0 : T10 w) (E : OpW w) (h : OdS w A x) :
    Calls Tryd.prog 24 #[.agg A] w fun e w' => e = .returned (.tuple #[.string (oL x), .bool (oB x)]) ∧ Below w.heap.size w w' := by
  obtain ⟨p, c, rfl, hl, h1⟩ := h
  exact implOpLine_any x.k x.nd x.tt x.a x.b x.tx p x.n c x.f w E0 E hl.1 hl.2 h1
set_option maxHeartbeats 1000000 in
theorem implScript_long (a : Option Addr) (n c : Nat) (XM : Nat → OpD) (w : World) (hm : n ≤ maxLen) (hn : 200 < n) :
    Calls Tryd.prog 33 #[.slice a n c] w fun e w' => e = .returned (.tuple #[.string (scO XM n), .bool (scB XM n)]) ∧ Below w.heap.size w w' := by
  unfold maxLen at hm
  have hd : (200 : Int) < (n : Int) := by omega
  have HN : Hid (scB XM n = false) := scB_long hn
  go_enter Tryd.func33, Tryd.ntmps33
  go_wp2_with fail
  go_ret2
  exact ⟨congrArg _ (sc_ans_no HN.out), Below.refl _ _⟩
attribute [-go_sem] loadCells storeCells in
set_option maxRecDepth 100000 in
set_option maxHeartbeats 8000000 in
theorem implScript_some (a : Option Addr) (n c : Nat) (XM : Nat → OpD) (w : World) (hn : n ≤ 200) (E : T10 w ∧ OpW w) (hr : RwP OdS w a n XM) :
    Calls Tryd.prog 33 #[.slice a n c] w fun e w' => e = .returned (.tuple #[.string (scO XM n), .bool (scB XM n)]) ∧ Below w.heap.size w w' := by
  have HE : Hid (T10 w ∧ OpW w) := E
  have HR : Hid (n ≠ 0 → ∃ b off AM, a = some ⟨b, off, none⟩ ∧ CsP w b off n AM ∧ ∀ i, i < n → OdS w (AM i) (XM i)) := fun h0 => by
    rcases hr with h | h
    · exact absurd h h0
    · exact h
  have hd : ¬ (200 : Int) < (n : Int) := by omega
  clear hr E
  have N := BdT.new w
  have B := Below.nw w (.cells #[.pointer none, .slice none 0 0] 109)
  go_enter Tryd.func33, Tryd.ntmps33
  go_wp2_with fail
  clear hd
  go_loopw [14] (fun i wr => ∃ k : Nat, k ≤ n ∧ i = .int .i64 k ∧ BdT wr w.heap.size (scL XM k) ∧ (∀ i, i < k → oB (XM i) = true) ∧ Below w.heap.size w wr) (fun i _ => n - (intOf i).toNat)
  case atStart => exact ⟨0, Nat.zero_le _, rfl, N, fun i hi => absurd hi (Nat.not_lt_zero _), B⟩
  case round =>
    clear N B
    obtain ⟨k, hk, rfl, N, hal, B⟩ := hrel
    have HA : Hid (∀ i, i < k → oB (XM i) = true) := hal
    clear hal
    have hzk := scL_size XM k
    by_cases hlt : k < n
    · obtain ⟨b, off, AM, rfl, hC, hQ⟩ := HR.out (by omega)
      have hx := hQ k hlt
      have hxs := hx.size
      have hL := (hC.below B).load (P := Tryd.prog) hlt hxs
      have hli : (k : Int) < (n : Int) := by omega
      have hone : ∀ u ∈ (AM k).toList, u.oneCell' = true := hx.one
      have CT := fun (v : World) (h : Below w.heap.size w v) => implLineS (AM k) (XM k) v (HE.out.1.below h) (HE.out.2.below h) (hx.below h)
      have ht := oL_size (XM k)
      have HB : Hid (oB (XM k) = false → scB XM n = false) := fun h => scB_bad hlt h
      have HK : Hid (oB (XM k) = true → ∀ i, i < k + 1 → oB (XM i) = true) := fun h i hi => by
        by_cases e : i = k
        · subst e; exact h
        · exact HA.out i (by omega)
      have HS : Hid ((scL XM k ++ oL (XM k)) ++ ⟨#[10]⟩ = scL XM (k + 1)) := rfl
      clear HA hC hQ hx
      generalize AM k = Ak at *
      generalize oL (XM k) = ob at *
      generalize oB (XM k) = bb at *
      generalize scL XM k = sk at *
      have NA := Below.nw wr (.cells #[.int .i64 0, .int .i64 0, .int .i64 0, .int .i64 0, .int .i64 0, .string ⟨#[]⟩, .slice none 0 0] 39)
      have O := Bo.new wr #[.int .i64 0, .int .i64 0, .int .i64 0, .int .i64 0, .int .i64 0, .string ⟨#[]⟩, .slice none 0 0] 39
      have hst : (storeCells ⟨wr.heap.size, 0, none⟩ Ak.toList 0).run Tryd.prog (wr.alloc (.cells #[.int .i64 0, .int .i64 0, .int .i64 0, .int .i64 0, .int .i64 0, .string ⟨#[]⟩, .slice none 0 0] 39)) = .ok () (putA (wr.alloc (.cells #[.int .i64 0, .int .i64 0, .int .i64 0, .int .i64 0, .int .i64 0, .string ⟨#[]⟩, .slice none 0 0] 39)) wr.heap.size 0 Ak.toList) := Bo.store (P := Tryd.prog) (b := 0) Ak.toList 0 0 O rfl (by simp [hxs]) hone
      have O2 := O.putW (U := Ak) (by rw [hxs]; rfl)
      have NB := putA_below (k := wr.heap.size) Ak.toList wr _ 0 NA (Nat.le_refl _)
      have hL2 := O2.load (P := Tryd.prog) hxs
      go_wp2_with (first | rw [hL] | rw [hst])
      clear hL hst O NA hone
      replace N := N.below NB
      replace B := B.trans (NB.mono B.size)
      clear NB O2
      generalize putA (wr.alloc (.cells #[.int .i64 0, .int .i64 0, .int .i64 0, .int .i64 0, .int .i64 0, .string ⟨#[]⟩, .slice none 0 0] 39)) wr.heap.size 0 Ak.toList = v at *
      go_wp2_with (rw [hL2])
      refine (CT _ B).mono ?_
      rintro e w2 ⟨rfl, hb⟩
      clear hL2 CT
      replace N := N.below hb
      replace B := B.trans (hb.mono B.size)
      clear hb
      cases bb
      · go_wp2_with fail
        go_ret2
        exact ⟨congrArg _ (sc_ans_no (HB.out (by first | trivial | rfl))), B⟩
      · go_wp2_with fail
        refine (bd_string _ _ _ _ N (by omega) (by omega)).mono ?_
        rintro e w3 ⟨rfl, N3, hb⟩
        replace B := B.trans hb
        clear hb N
        have hz3 : (sk ++ ob).size ≤ 1000000 := by rw [ByteArray.size_append]; omega
        have HS2 : Hid (BdT w3 w.heap.size (sk ++ ob)) := N3
        clear N3
        go_wp2_with fail
        refine (bd_byte _ _ _ HS2.out hz3).mono ?_
        rintro e w4 ⟨rfl, N4, hb⟩
        replace B := B.trans hb
        clear hb HS2
        rw [HS.out] at N4
        clear HS
        go_wp2_with fail
        go_roundw
        case rel => exact ⟨k + 1, by omega, by go_num, N4, HK.out (by first | trivial | rfl), B⟩
        case measure => simp [intOf]; omega
    · have hkn : k = n := by omega
      subst hkn
      have hli : ¬ (k : Int) < (k : Int) := by omega
      have HN : Hid (scB XM k = decide ((scL XM k).size ≤ 20000)) := scB_all hn HA.out
      clear HA
      have HY : Hid (scB XM k = true → (Value.tuple #[.string (scL XM k), .bool true]) = .tuple #[.string (scO XM k), .bool (scB XM k)]) := sc_ans_yes
      have HZ : Hid (scB XM k = false → (Value.tuple #[.string ⟨#[]⟩, .bool false]) = .tuple #[.string (scO XM k), .bool (scB XM k)]) := sc_ans_no
      generalize scL XM k = sk at *
      go_wp2_with fail
      refine (bd_len _ _ _ N).mono ?_
      rintro e w5 ⟨rfl, rfl⟩
      by_cases hbig : (20000 : Int) < (sk.size : Int)
      · go_wp2_with fail
        go_ret2
        exact ⟨congrArg _ (HZ.out (by rw [HN.out]; exact decide_eq_false (by omega))), B⟩
      · go_wp2_with fail
        refine (bd_text _ _ _ N).mono ?_
        rintro e w6 ⟨rfl, hb⟩
        replace B := B.trans hb
        go_wp2_with fail
        go_ret2
        exact ⟨congrArg _ (HY.out (by rw [HN.out]; exact decide_eq_true (by omega))), B⟩
theorem implScript_any (a : Option Addr) (n c : Nat) (XM : Nat → OpD) (w : World) (E : T10 w ∧ OpW w) (hm : n ≤ maxLen) (h : RwP OdS w a n XM) :
    Calls Tryd.prog 33 #[.slice a n c] w fun e w' => e = .returned (.tuple #[.string (scO XM n), .bool (scB XM n)]) ∧ Below w.heap.size w w' := by
  by_cases hn : 200 < n
  · exact implScript_long a n c XM w hm hn
  · exact implScript_some a n c XM w (by omega) E h

end Go.Proofs.YtddjiamollfplaaDoor
