/- HeardLost in the specification. -/
import Derived.Test.YtdahabbdhjgpdaaDoorS164
import Derived.Deep.RegionHeld3
import Derived.Deep.DeepCutAuto
import Derived.WalkKit
import Derived.WalkSpells
import Derived.WalkLawsBesides
import Derived.Deep.RegionHeld
namespace Go.Proofs.YtdahabbdhjgpdaaDoor
open Go.RowKit
set_option linter.unusedVariables false
theorem own_addr {w : World} {base s n n' c : Nat} {T : TypeId} {a : Option Addr} {xs : List Value} (h : w.ownsRow base T s (.slice a n c) n' xs) : ∀ b off, a = some ⟨b, off, none⟩ → base ≤ b ∧ b < w.heap.size := by
  intro b off e
  subst e
  rcases h.2 with ⟨he, h0⟩ | ⟨g, cap, cur, he, _⟩
  · simp at he
  · simp at he
    obtain ⟨⟨rfl, rfl⟩, rfl, rfl⟩ := he
    exact World.ownsRow.lt h b rfl
/- A row of numbers that another row's growing leaves. -/
def IR (w : World) (a : Option Addr) (l : Nat) (f : Nat → Int) (B : Nat) : Prop := SrcC w a (l * 1) (MFInt f) ∧ ∀ b off, a = some ⟨b, off, none⟩ → b < B
theorem IR.below {w w' : World} {a : Option Addr} {l B : Nat} {f : Nat → Int} (h : IR w a l f B) (hb : Below w.heap.size w w') : IR w' a l f B := ⟨h.1.below hb, h.2⟩
theorem IR.grown {w w' : World} {a : Option Addr} {l B : Nat} {f : Nat → Int} {o : Option Nat} (h : IR w a l f B) (hg : w.grownBy w' o) (hn : ∀ b off, a = some ⟨b, off, none⟩ → some b ≠ o) : IR w' a l f B := ⟨h.1.keptK hg hn, h.2⟩
theorem ne_grown {w : World} {a : Option Addr} {B : Nat} {v v' : Value} (h : ∀ b off, a = some ⟨b, off, none⟩ → b < B) (hB : B ≤ w.heap.size) (hn : ∀ b off, a = some ⟨b, off, none⟩ → some b ≠ v.ownBlock) (hv : ∀ g, v'.ownBlock = some g → v.ownBlock = some g ∨ w.heap.size ≤ g) : ∀ b off, a = some ⟨b, off, none⟩ → some b ≠ v'.ownBlock := by
  intro b off e he
  rcases hv b he.symm with r | r
  · exact hn b off e r.symm
  · have := h b off e; omega
/- Which slots of the plan are not heard now, in the specification. -/
set_option maxRecDepth 100000 in
set_option maxHeartbeats 8000000 in
theorem specHeardLost_any (a : Option Addr) (n k : Nat) (M : Nat → VT) (s g : Int) (p : Option Addr) (m d : Nat) (PM : Nat → SlT) (nu de c : Int) (w : World) (hm : n ≤ maxLen) (hs : SrcC w a (n * 2) (MFIval M)) (hpm : m ≤ maxLen) (hp : SrcC w p (m * 2) (MFSlot PM)) :
    Calls Tryd.prog 33 #[.slice a n k, .agg #[.int .i64 s, .int .i64 g, .slice p m d], .agg #[.int .i64 nu, .int .i64 de], .int .i64 c] w fun e w' => ∃ v, e = .returned v ∧ w'.ownsRow w.heap.size 3 1 v (loL M n s g PM m nu de c).length (irow (loL M n s g PM m nu de c)) ∧ Below w.heap.size w w' := by
  have A0 := Below.nw w (.cells #[.int .i64 s, .int .i64 g, .slice p m d] 27)
  have A1 := Below.nw (w.alloc (.cells #[.int .i64 s, .int .i64 g, .slice p m d] 27)) (.cells #[.int .i64 nu, .int .i64 de] 39)
  have N := (Tx3.new w (.int .i64 s) (.int .i64 g) (.slice p m d) 27).below A1
  have D := Bx2.new (w.alloc (.cells #[.int .i64 s, .int .i64 g, .slice p m d] 27)) (.int .i64 nu) (.int .i64 de) 39
  have B := A0.trans (A1.mono A0.size)
  have A2 := Below.nw ((w.alloc (.cells #[.int .i64 s, .int .i64 g, .slice p m d] 27)).alloc (.cells #[.int .i64 nu, .int .i64 de] 39)) (.cells #[] 3)
  have OW := made_int ((w.alloc (.cells #[.int .i64 s, .int .i64 g, .slice p m d] 27)).alloc (.cells #[.int .i64 nu, .int .i64 de] 39))
  replace N := N.below A2
  replace D := D.below A2
  replace B := B.trans (A2.mono B.size)
  have hjs : w.heap.size + 2 ≤ (((w.alloc (.cells #[.int .i64 s, .int .i64 g, .slice p m d] 27)).alloc (.cells #[.int .i64 nu, .int .i64 de] 39)).alloc (.cells #[] 3)).heap.size := by simp
  simp only [World.size_alloc] at D OW
  clear A0 A1 A2
  have HS : Hid (SrcC w a (n * 2) (MFIval M)) := hs
  have HP : Hid (SrcC w p (m * 2) (MFSlot PM)) := hp
  have C1 := fun w' h h' => l16Right_any a n k M s g p m d PM nu de c w' hm h hpm h'
  clear hs hp
  cases h1 : rtB M n s g PM m nu de c
  · rw [show loL M n s g PM m nu de c = [] by unfold loL; rw [h1]]
    go_enter Tryd.func33, Tryd.ntmps33; go_upto_region 2 with fail; generalize ((w.alloc (.cells #[.int .i64 s, .int .i64 g, .slice p m d] 27)).alloc (.cells #[.int .i64 nu, .int .i64 de] 39)).alloc (.cells #[] 3) = v at *
    obtain ⟨n0, n1, n2, n3, n4, n5, n6⟩ := id N; obtain ⟨d0, d1, d2, d3, d4⟩ := id D; go_wp2_with fail; refine (C1 _ (HS.out.below B) (HP.out.below B)).mono ?_; rintro e v1 ⟨rfl, hb⟩; clear n0 n1 n2 n3 n4 n5 n6; clear d0 d1 d2 d3 d4; replace B := B.trans (hb.mono B.size); replace N := N.below hb; replace D := D.below hb; replace OW := own_belK' OW hb; replace hjs := Nat.le_trans hjs hb.size; clear hb; rw [h1]
    go_wp2_with fail
    go_ret
    exact ⟨_, rfl, own_baseI16 OW (Nat.le_add_right w.heap.size 2), B⟩
  rw [show loL M n s g PM m nu de c = slJ (loP (nwL M n s g PM m nu de c)) m by unfold loL; rw [h1]]
  obtain ⟨r1, r2, r3, r4⟩ := rtB_t h1
  have hm12 := (plB_t r2).2.2.1.2
  have C2 := fun w' h h' => specHeardNow_any a n k M s g p m d PM nu de c w' hm h hpm h'
  have hW : (nwL M n s g PM m nu de c).length ≤ 16 := by
    have h5 := fiL_len (nwP M s g PM m nu de c) (slS M) n
    have h6 := (hrB_t r1).1
    unfold nwL
    rw [h1]
    simp only
    omega
  generalize nwL M n s g PM m nu de c = W at *
  have HY : Hid (∀ j, loP W j = true → slJ (loP W) (j + 1) = slJ (loP W) j ++ [(j : Int)]) := fun j h => slJ_yes h
  have HX : Hid (∀ j, loP W j = false → slJ (loP W) (j + 1) = slJ (loP W) j) := fun j h => slJ_no h
  have HLN : Hid (∀ j, (slJ (loP W) j).length ≤ j) := slJ_len _
  have HPP : Hid (∀ j : Nat, hasJ (gI W) (j : Int) W.length = !loP W j) := fun j => by rw [loP, Bool.not_not]
  have HL0 : Hid (slJ (loP W) 0 = []) := rfl
  have CH : Hid (∀ (a : Option Addr) (c : Nat) (x : Int) w', SrcC w' a (W.length * 1) (MFInt (gI W)) → Calls Tryd.prog 68 #[.slice a W.length c, .int .i64 x] w' fun e w'' => e = .returned (.bool (hasJ (gI W) x W.length)) ∧ w' = w'') := fun a c x w' h => l16Has_any a W.length c (gI W) x w' (by omega) h
  generalize slJ (loP W) = L at *
  generalize loP W = P at *
  go_enter Tryd.func33, Tryd.ntmps33; go_upto_region 2 with fail; generalize ((w.alloc (.cells #[.int .i64 s, .int .i64 g, .slice p m d] 27)).alloc (.cells #[.int .i64 nu, .int .i64 de] 39)).alloc (.cells #[] 3) = v at *
  obtain ⟨n0, n1, n2, n3, n4, n5, n6⟩ := id N; obtain ⟨d0, d1, d2, d3, d4⟩ := id D; go_wp2_with fail; refine (C1 _ (HS.out.below B) (HP.out.below B)).mono ?_; rintro e v1 ⟨rfl, hb⟩; clear n0 n1 n2 n3 n4 n5 n6; clear d0 d1 d2 d3 d4; replace B := B.trans (hb.mono B.size); replace N := N.below hb; replace D := D.below hb; replace OW := own_belK' OW hb; replace hjs := Nat.le_trans hjs hb.size; clear hb; rw [h1]
  clear C1 h1 r1 r2 r3 r4 hm hpm
  obtain ⟨n0, n1, n2, n3, n4, n5, n6⟩ := id N
  obtain ⟨d0, d1, d2, d3, d4⟩ := id D
  go_wp2_with fail
  refine (C2 _ (HS.out.below B) (HP.out.below B)).mono ?_
  rintro e v2 ⟨vn, rfl, OWn, hb⟩
  clear n0 n1 n2 n3 n4 n5 n6
  clear d0 d1 d2 d3 d4
  obtain ⟨na, nc, rfl, _, _, Q0⟩ := ownF_src OWn
  have hna := own_addr OWn
  have HR0 : Hid (IR v2 na W.length (gI W) v2.heap.size) := ⟨Q0, fun b off e => (hna b off e).2⟩
  have HNE : Hid (∀ b off, na = some ⟨b, off, none⟩ → some b ≠ (Value.slice (some ⟨w.heap.size + 2, 0, none⟩) 0 0).ownBlock) := fun b off e he => by
    have h1 := (hna b off e).1
    have h2 := (World.ownsRow.lt OW b he.symm).2
    omega
  replace B := B.trans (hb.mono B.size)
  replace N := N.below hb
  replace OW := own_belK' OW hb
  replace hjs := Nat.le_trans hjs hb.size
  clear hb OWn Q0 hna C2 D HS HP
  have HB1 : Hid (Below w.heap.size w v2) := B
  have HN1 : Hid (Tx3 v2 w.heap.size (.int .i64 s) (.int .i64 g) (.slice p m d)) := N
  have HO1 : Hid (v2.ownsRow (w.heap.size + 2) 3 1 (.slice (some ⟨w.heap.size + 2, 0, none⟩) 0 0) (L 0).length (irow (L 0))) := by rw [Hid, HL0.out]; exact OW
  have HJ1 : Hid (w.heap.size + 2 ≤ v2.heap.size) := hjs
  clear B N OW hjs
  go_wp2_with fail
  go_loopw [9, 11] (fun s9 i wr => ∃ (q : Nat), q ≤ m ∧ i = .int .i64 q ∧ wr.ownsRow (w.heap.size + 2) 3 1 s9 (L q).length (irow (L q)) ∧ IR wr na W.length (gI W) v2.heap.size ∧ (∀ b off, na = some ⟨b, off, none⟩ → some b ≠ s9.ownBlock) ∧ w.heap.size + 2 ≤ wr.heap.size ∧ Below (w.heap.size + 2) v2 wr) (fun _ i _ => m - (intOf i).toNat)
  case atStart => exact ⟨0, Nat.zero_le _, rfl, HO1.out, HR0.out, HNE.out, HJ1.out, Below.refl _ _⟩
  case round =>
    clear HO1 HR0 HNE
    obtain ⟨q, hq, rfl, OW, IRw, hne, hjs, BJ⟩ := hrel
    have N := HN1.out.belowB BJ (by omega)
    have HR : Hid (IR wr na W.length (gI W) v2.heap.size) := IRw
    have HNE : Hid (∀ b off, na = some ⟨b, off, none⟩ → some b ≠ u9.ownBlock) := hne
    clear IRw hne
    by_cases hlt : q < m
    · have hli : (q : Int) < (m : Int) := by omega
      have HQ : Hid (q < m) := hlt
      have HPq := HPP.out q
      have CHq := CH.out na nc (q : Int) wr HR.out.1
      rw [HPq] at CHq
      have hlen := HLN.out q
      have HX1 := HX.out q
      have HY1 := HY.out q
      clear HPP HY HX HLN hlt hq HB1 HPq CH
      cases h2 : P q
      · have HE : Hid (L (q + 1) = L q) := HX1 h2
        rw [h2] at CHq
        have HO9 : Hid (wr.ownsRow (w.heap.size + 2) 3 1 u9 (L q).length (irow (L q))) := OW
        clear HX1 HY1 OW h2
        obtain ⟨n0, n1, n2, n3, n4, n5, n6⟩ := id N
        go_wp2_with fail
        refine CHq.mono ?_
        rintro e w' ⟨rfl, rfl⟩
        go_wp2_with fail
        go_roundw
        case rel => exact ⟨q + 1, HQ.out, by go_num, by rw [HE.out]; exact HO9.out, HR.out, HNE.out, hjs, BJ⟩
        case measure => have hlt' := HQ.out; simp [intOf]; omega
      · have HE : Hid (L (q + 1) = L q ++ [(q : Int)]) := HY1 h2
        rw [h2] at CHq
        clear HX1 HY1 h2
        generalize L q = Lr at *
        obtain ⟨n0, n1, n2, n3, n4, n5, n6⟩ := id N
        go_wp2_with fail
        refine CHq.mono ?_
        rintro e w' ⟨rfl, rfl⟩
        have hlen' : Lr.length ≤ 64 := by omega
        go_upto_region 7 with (at_builtin; refine add_int rfl _ _ rfl (w.heap.size + 2) Lr _ rfl OW rfl hlen' hjs ?_; intro v' w9 O9 hg9 hn9)
        clear n0 n1 n2 n3 n4 n5 n6
        have HO9 : Hid (w9.ownsRow (w.heap.size + 2) 3 1 v' (Lr ++ [(q : Int)]).length (irow (Lr ++ [(q : Int)]))) := O9
        have HR9 : Hid (IR w9 na W.length (gI W) v2.heap.size) := HR.out.grown hg9 HNE.out
        have HN9 : Hid (∀ b off, na = some ⟨b, off, none⟩ → some b ≠ v'.ownBlock) := ne_grown HR.out.2 BJ.size HNE.out hn9
        replace BJ := BJ.trans (grown_belowK OW hg9 hjs)
        replace hjs : w.heap.size + 2 ≤ w9.heap.size := Nat.le_trans hjs hg9.size
        clear O9 OW hg9 hn9 N
        go_wp2_with fail
        go_roundw
        case rel => exact ⟨q + 1, HQ.out, by go_num, by rw [HE.out]; exact HO9.out, HR9.out, HN9.out, hjs, BJ⟩
        case measure => have hlt' := HQ.out; simp [intOf]; omega
    · have hkn : q = m := by omega
      subst hkn
      have hli : ¬ (q : Int) < (q : Int) := by omega
      have B := HB1.out.trans (BJ.mono (by omega))
      clear HPP HY HX HLN CH
      obtain ⟨n0, n1, n2, n3, n4, n5, n6⟩ := id N
      go_wp2_with fail
      go_ret
      exact ⟨_, rfl, own_baseI16 OW (Nat.le_add_right w.heap.size 2), B⟩
end Go.Proofs.YtdahabbdhjgpdaaDoor
