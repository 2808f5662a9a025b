/- Boxes that the laws keep. AppOk and AppRead in the specification. A bl -/
import Derived.Deep.DeepAppendRoom
import Derived.Test.YtikbjljkakabdaaGreatMB0
import Derived.Test.YtikbjljkakabdaaGreatMB5
namespace Go.Proofs.YtikbjljkakabdaaGreat
open Go.RowKit
set_option linter.unusedVariables false
set_option maxRecDepth 100000
set_option maxHeartbeats 16000000
def Bx2 (w : World) (k : Nat) (u0 u1 : Value) : Prop := k < w.heap.size ∧ w.cell? ⟨k, 0, none⟩ = some u0 ∧ w.cell? ⟨k, 1, none⟩ = some u1 ∧ w.frozen? ⟨k, 0, none⟩ = false ∧ w.frozen? ⟨k, 1, none⟩ = false
theorem Bx2.belowB {k B : Nat} {w w' : World} {u0 u1 : Value} (h : Bx2 w k u0 u1) (hw : Below B w w') (hk : k < B) : Bx2 w' k u0 u1 := by
 obtain ⟨h0, h1, h2, f1, f2⟩ := h
 exact ⟨Nat.lt_of_lt_of_le h0 hw.size, by rw [hw.cell (p := ⟨k, 0, none⟩) hk]; exact h1, by rw [hw.cell (p := ⟨k, 1, none⟩) hk]; exact h2, by rw [hw.frozen (p := ⟨k, 0, none⟩) hk]; exact f1, by rw [hw.frozen (p := ⟨k, 1, none⟩) hk]; exact f2⟩
theorem Bx2.below {k : Nat} {w w' : World} {u0 u1 : Value} (h : Bx2 w k u0 u1) (hw : Below w.heap.size w w') : Bx2 w' k u0 u1 := h.belowB hw h.1
theorem Bx2.but {w w' : World} {k q : Nat} {u0 u1 : Value} (h : Bx2 w k u0 u1) (hb : But q w w') (hq : k ≠ q) : Bx2 w' k u0 u1 := by
 obtain ⟨h0, h1, h2, f1, f2⟩ := h
 exact ⟨Nat.lt_of_lt_of_le h0 hb.2.2.2.1, by rw [hb.cell h0 hq]; exact h1, by rw [hb.cell h0 hq]; exact h2, by rw [hb.frozen h0 hq]; exact f1, by rw [hb.frozen h0 hq]; exact f2⟩
theorem Bx2.alloc {k : Nat} {w : World} {u0 u1 : Value} (h : Bx2 w k u0 u1) (o : Obj) : Bx2 (w.alloc o) k u0 u1 := h.below ((Below.refl _ _).alloc (Nat.le_refl _) _)
theorem Bx2.new (w : World) (u0 u1 : Value) (T : TypeId) : Bx2 (w.alloc (.cells #[u0, u1] T)) w.heap.size u0 u1 := ⟨by simp, by simp, by simp, by simp, by simp⟩
theorem Bx2.drew {k : Nat} {w : World} {u0 u1 : Value} (h : Bx2 w k u0 u1) : Bx2 w.drew k u0 u1 := h
theorem Bx2.setO {k j : Nat} {w : World} {u0 u1 : Value} (h : Bx2 w k u0 u1) (hk : j ≠ k) (o : Nat) (u : Value) : Bx2 (w.setCell ⟨j, o, none⟩ u) k u0 u1 := by
 have hne : ∀ q, (⟨j, o, none⟩ : Addr) ≠ ⟨k, q, none⟩ := fun q e => hk (congrArg Addr.block e)
 obtain ⟨h0, h1, h2, f1, f2⟩ := h
 exact ⟨by simpa using h0, by rw [World.cell?_setCell_other _ _ _ _ (hne _)]; exact h1, by rw [World.cell?_setCell_other _ _ _ _ (hne _)]; exact h2, by simpa using f1, by simpa using f2⟩
theorem Bx2.set0 {k : Nat} {w : World} {u0 u1 : Value} (h : Bx2 w k u0 u1) (x : Value) : Bx2 (w.setCell ⟨k, 0, none⟩ x) k x u1 := by
 obtain ⟨h0, h1, h2, f1, f2⟩ := h
 exact ⟨by simpa using h0, World.cell?_setCell_same _ _ _ h1, (zO (by simp)).trans h2, by simpa using f1, by simpa using f2⟩
theorem Bx2.set1 {k : Nat} {w : World} {u0 u1 : Value} (h : Bx2 w k u0 u1) (x : Value) : Bx2 (w.setCell ⟨k, 1, none⟩ x) k u0 x := by
 obtain ⟨h0, h1, h2, f1, f2⟩ := h
 exact ⟨by simpa using h0, (zO (by simp)).trans h1, World.cell?_setCell_same _ _ _ h2, by simpa using f1, by simpa using f2⟩
theorem Bx2.kept {w w' : World} {q : Option Nat} {k : Nat} {u0 u1 : Value} (h : Bx2 w k u0 u1) (hg : w.grownBy w' q) (hq : some k ≠ q) : Bx2 w' k u0 u1 := by
 obtain ⟨h0, h1, h2, f1, f2⟩ := h
 have cc : ∀ i, w'.cell? ⟨k, i, none⟩ = w.cell? ⟨k, i, none⟩ := fun i => cB hg h0 hq
 have ff : ∀ i, w'.frozen? ⟨k, i, none⟩ = w.frozen? ⟨k, i, none⟩ := fun i => by have := hg.block k h0 hq; simp only [World.frozen?]; rw [this]
 exact ⟨Nat.lt_of_lt_of_le h0 hg.size, by rw [cc]; exact h1, by rw [cc]; exact h2, by rw [ff]; exact f1, by rw [ff]; exact f2⟩
def inT (l : Int) : Bool := decide (-1000000000000 ≤ l ∧ l ≤ 1000000000000)
def apB (h : Bool) (l : Int) : Bool := inT l && (h || (l == 0))
theorem gW (h : Bool) (l : Int) (w : World) : Calls Tryz.prog 152 #[.agg #[.bool h, .int .i64 l]] w fun e w' => e = .returned (.bool (apB h l)) ∧ Below w.heap.size w w' := by
 have A := Below.nw w (.cells #[.bool h, .int .i64 l] 54)
 have N := Bx2.new w (.bool h) (.int .i64 l) 54
 have C1 := fun w' => aC l (-1000000000000) 1000000000000 w'
 unfold apB
 have e0 : decide (-1000000000000 ≤ l ∧ l ≤ 1000000000000) = inT l := rfl
 rw [e0] at C1
 clear e0
 generalize inT l = q at *
 cases q
 ·go_enter Tryz.func152, Tryz.ntmps152
  go_upto_region 1 with fail
  generalize w.alloc (.cells #[.bool h, .int .i64 l] 54) = v at *
  have n0 : _ ∧ _ := N
  go_wp2_with fail
  refine (C1 _).mono ?_
  rintro e w' ⟨rfl, rfl⟩
  go_wp2_with fail
  go_ret
  exact ⟨rfl, A⟩
 ·cases h
  ·cases hz : (l == 0)
   all_goals
    go_enter Tryz.func152, Tryz.ntmps152
    go_upto_region 1 with fail
    generalize w.alloc (.cells #[.bool false, .int .i64 l] 54) = v at *
    have n0 : _ ∧ _ := N
    go_wp2_with fail
    refine (C1 _).mono ?_
    rintro e w' ⟨rfl, rfl⟩
    go_wp2_with fail
    go_ret
    exact ⟨by first | rfl | (rw [hz]; rfl) | (simp; done), A⟩
  ·go_enter Tryz.func152, Tryz.ntmps152
   go_upto_region 1 with fail
   generalize w.alloc (.cells #[.bool true, .int .i64 l] 54) = v at *
   have n0 : _ ∧ _ := N
   go_wp2_with fail
   refine (C1 _).mono ?_
   rintro e w' ⟨rfl, rfl⟩
   go_wp2_with fail
   go_ret
   exact ⟨rfl, A⟩
def Tx3 (w : World) (k : Nat) (u0 u1 u2 : Value) : Prop := k < w.heap.size ∧ w.cell? ⟨k, 0, none⟩ = some u0 ∧ w.cell? ⟨k, 1, none⟩ = some u1 ∧ w.cell? ⟨k, 2, none⟩ = some u2 ∧ w.frozen? ⟨k, 0, none⟩ = false ∧ w.frozen? ⟨k, 1, none⟩ = false ∧ w.frozen? ⟨k, 2, none⟩ = false
theorem Tx3.belowB {k B : Nat} {w w' : World} {u0 u1 u2 : Value} (h : Tx3 w k u0 u1 u2) (hw : Below B w w') (hk : k < B) : Tx3 w' k u0 u1 u2 := by
 obtain ⟨h0, h1, h2, h3, f1, f2, f3⟩ := h
 exact ⟨Nat.lt_of_lt_of_le h0 hw.size, by rw [hw.cell (p := ⟨k, 0, none⟩) hk]; exact h1, by rw [hw.cell (p := ⟨k, 1, none⟩) hk]; exact h2, by rw [hw.cell (p := ⟨k, 2, none⟩) hk]; exact h3, by rw [hw.frozen (p := ⟨k, 0, none⟩) hk]; exact f1, by rw [hw.frozen (p := ⟨k, 1, none⟩) hk]; exact f2, by rw [hw.frozen (p := ⟨k, 2, none⟩) hk]; exact f3⟩
theorem Tx3.below {k : Nat} {w w' : World} {u0 u1 u2 : Value} (h : Tx3 w k u0 u1 u2) (hw : Below w.heap.size w w') : Tx3 w' k u0 u1 u2 := h.belowB hw h.1
theorem Tx3.but {w w' : World} {k q : Nat} {u0 u1 u2 : Value} (h : Tx3 w k u0 u1 u2) (hb : But q w w') (hq : k ≠ q) : Tx3 w' k u0 u1 u2 := by
 obtain ⟨h0, h1, h2, h3, f1, f2, f3⟩ := h
 exact ⟨Nat.lt_of_lt_of_le h0 hb.2.2.2.1, by rw [hb.cell h0 hq]; exact h1, by rw [hb.cell h0 hq]; exact h2, by rw [hb.cell h0 hq]; exact h3, by rw [hb.frozen h0 hq]; exact f1, by rw [hb.frozen h0 hq]; exact f2, by rw [hb.frozen h0 hq]; exact f3⟩
theorem Tx3.alloc {k : Nat} {w : World} {u0 u1 u2 : Value} (h : Tx3 w k u0 u1 u2) (o : Obj) : Tx3 (w.alloc o) k u0 u1 u2 := h.below ((Below.refl _ _).alloc (Nat.le_refl _) _)
theorem Tx3.new (w : World) (u0 u1 u2 : Value) (T : TypeId) : Tx3 (w.alloc (.cells #[u0, u1, u2] T)) w.heap.size u0 u1 u2 := ⟨by simp, by simp, by simp, by simp, by simp, by simp, by simp⟩
theorem Tx3.drew {k : Nat} {w : World} {u0 u1 u2 : Value} (h : Tx3 w k u0 u1 u2) : Tx3 w.drew k u0 u1 u2 := h
theorem Tx3.setO {k j : Nat} {w : World} {u0 u1 u2 : Value} (h : Tx3 w k u0 u1 u2) (hk : j ≠ k) (o : Nat) (u : Value) : Tx3 (w.setCell ⟨j, o, none⟩ u) k u0 u1 u2 := by
 have hne : ∀ q, (⟨j, o, none⟩ : Addr) ≠ ⟨k, q, none⟩ := fun q e => hk (congrArg Addr.block e)
 obtain ⟨h0, h1, h2, h3, f1, f2, f3⟩ := h
 exact ⟨by simpa using h0, by rw [World.cell?_setCell_other _ _ _ _ (hne _)]; exact h1, by rw [World.cell?_setCell_other _ _ _ _ (hne _)]; exact h2, by rw [World.cell?_setCell_other _ _ _ _ (hne _)]; exact h3, by simpa using f1, by simpa using f2, by simpa using f3⟩
theorem Tx3.set0 {k : Nat} {w : World} {u0 u1 u2 : Value} (h : Tx3 w k u0 u1 u2) (x : Value) : Tx3 (w.setCell ⟨k, 0, none⟩ x) k x u1 u2 := by
 obtain ⟨h0, h1, h2, h3, f1, f2, f3⟩ := h
 exact ⟨by simpa using h0, World.cell?_setCell_same _ _ _ h1, (zO (by simp)).trans h2, (zO (by simp)).trans h3, by simpa using f1, by simpa using f2, by simpa using f3⟩
theorem Tx3.set1 {k : Nat} {w : World} {u0 u1 u2 : Value} (h : Tx3 w k u0 u1 u2) (x : Value) : Tx3 (w.setCell ⟨k, 1, none⟩ x) k u0 x u2 := by
 obtain ⟨h0, h1, h2, h3, f1, f2, f3⟩ := h
 exact ⟨by simpa using h0, (zO (by simp)).trans h1, World.cell?_setCell_same _ _ _ h2, (zO (by simp)).trans h3, by simpa using f1, by simpa using f2, by simpa using f3⟩
theorem Tx3.set2 {k : Nat} {w : World} {u0 u1 u2 : Value} (h : Tx3 w k u0 u1 u2) (x : Value) : Tx3 (w.setCell ⟨k, 2, none⟩ x) k u0 u1 x := by
 obtain ⟨h0, h1, h2, h3, f1, f2, f3⟩ := h
 exact ⟨by simpa using h0, (zO (by simp)).trans h1, (zO (by simp)).trans h2, World.cell?_setCell_same _ _ _ h3, by simpa using f1, by simpa using f2, by simpa using f3⟩
theorem Tx3.kept {w w' : World} {q : Option Nat} {k : Nat} {u0 u1 u2 : Value} (h : Tx3 w k u0 u1 u2) (hg : w.grownBy w' q) (hq : some k ≠ q) : Tx3 w' k u0 u1 u2 := by
 obtain ⟨h0, h1, h2, h3, f1, f2, f3⟩ := h
 have cc : ∀ i, w'.cell? ⟨k, i, none⟩ = w.cell? ⟨k, i, none⟩ := fun i => cB hg h0 hq
 have ff : ∀ i, w'.frozen? ⟨k, i, none⟩ = w.frozen? ⟨k, i, none⟩ := fun i => by have := hg.block k h0 hq; simp only [World.frozen?]; rw [this]
 exact ⟨Nat.lt_of_lt_of_le h0 hg.size, by rw [cc]; exact h1, by rw [cc]; exact h2, by rw [cc]; exact h3, by rw [ff]; exact f1, by rw [ff]; exact f2, by rw [ff]; exact f3⟩
def hrO (x : VT) : Bool := decide (0 ≤ x.1 ∧ x.1 ≤ 15) && okT x.2
def hrA (M : Nat → VT) : Nat → Bool
 | 0 => true
 | j + 1 => hrA M j && (hrO (M j) && (decide (j = 0) || decide ((M (j - 1)).1 < (M j).1)))
def hrB (M : Nat → VT) (n : Nat) : Bool := decide (n ≤ 16) && hrA M n
theorem pY {M : Nat → VT} {k n : Nat} (h : hrA M (k + 1) = false) (hk : k < n) : hrA M n = false := by
 induction n with
 | zero => omega
 | succ n ih =>
  by_cases e : k = n
  ·subst e; exact h
  ·rw [hrA, ih (by omega)]; rfl
theorem er {M : Nat → VT} {k n : Nat} (h : hrA M (k + 1) = false) (hk : k < n) : hrB M n = false := by unfold hrB; rw [pY h hk]; simp
theorem pX {M : Nat → VT} {k n : Nat} (h : hrA M n = true) (hk : k < n) : hrO (M k) = true ∧ (k = 0 ∨ (M (k - 1)).1 < (M k).1) := by
 cases e : hrA M (k + 1)
 ·rw [pY e hk] at h; exact absurd h (by decide)
 ·rw [hrA] at e
  simp only [Bool.and_eq_true, Bool.or_eq_true, decide_eq_true_eq] at e
  exact ⟨e.2.1, e.2.2⟩
theorem rK {x : VT} (h : hrO x = true) : (0 ≤ x.1 ∧ x.1 ≤ 15) ∧ (0 ≤ x.2 ∧ x.2 ≤ 1000000000000) := by
 unfold hrO okT at h
 simp at h
 omega
theorem fh (a : Option Addr) (n c : Nat) (M : Nat → VT) (w : World) (hm : n ≤ maxLen) (hs : az w a (n * 2) (au M)) :
 Calls Tryz.prog 153 #[.slice a n c] w fun e w' => e = .returned (.bool (hrB M n)) ∧ Below w.heap.size w w' := by
 have HS : Hid (az w a (n * 2) (au M)) := hs
 clear hs
 unfold maxLen at hm
 by_cases h60 : 16 < (n : Int)
 ·have e0 : hrB M n = false := by unfold hrB; rw [decide_eq_false (by omega)]; rfl
  rw [e0]
  go_enter Tryz.func153, Tryz.ntmps153
  go_wp2_with fail
  go_ret
  exact ⟨rfl, Below.refl _ _⟩
 have e0 : Hid (hrB M n = hrA M n) := by unfold hrB; rw [decide_eq_true (by omega)]; rfl
 go_enter Tryz.func153, Tryz.ntmps153
 go_wp2_with fail
 go_loopw [3] (fun i wr => ∃ (k : Nat), k ≤ n ∧ i = .int .i64 k ∧ hrA M k = true ∧ Below w.heap.size w wr) (fun i _ => n - (intOf i).toNat)
 case atStart => exact ⟨0, Nat.zero_le _, rfl, rfl, Below.refl _ _⟩
 case round =>
  obtain ⟨k, hk, rfl, hA, B⟩ := hrel
  by_cases hlt : k < n
  ·have HLT : Hid (k < n) := hlt
   have hli : (k : Int) < (n : Int) := by omega
   obtain ⟨x0, x1, hM⟩ := dm M k
   obtain ⟨b, off, rfl, hf⟩ : ∃ b off, a = some ⟨b, off, none⟩ ∧ Cs w b off (n * 2) (au M) := by
    rcases HS.out with q | q
    ·exact absurd q (by omega)
    ·exact q
   have hf' := hf.below B hf.1
   have hbb := hf'.1
   obtain ⟨c0, c1⟩ := hf'.elIval hlt hM
   have CA : ∀ w', Calls Tryz.prog 113 #[.int .i64 x0, .int .i64 0, .int .i64 15] w' fun e w'' => e = .returned (.bool (decide (0 ≤ x0 ∧ x0 ≤ 15))) ∧ w' = w'' := fun w' => aC x0 0 15 w'
   have CB := fun w' => aw x1 w'
   have HA : Hid (hrA M (k + 1) = ((decide (0 ≤ x0 ∧ x0 ≤ 15) && okT x1) && (decide (k = 0) || decide ((M (k - 1)).1 < x0)))) := by rw [Hid, hrA, hA, hM]; rfl
   cases h1 : decide (0 ≤ x0 ∧ x0 ≤ 15)
   ·have HN : Hid (hrA M (k + 1) = false) := by rw [Hid, HA.out, h1]; rfl
    rw [h1] at CA
    clear HA hM hf hf' HS hA hlt
    have SK : Hid (∀ w', Below wr.heap.size wr w' → ((fun w' => w'.cell? ⟨b, off + k * 2, none⟩ = some (.int .i64 x0) ∧ w'.cell? ⟨b, off + k * 2 + 1, none⟩ = some (.int .i64 x1))) w') := fun w' hw => ⟨(by rw [hw.cell (p := ⟨b, off + k * 2, none⟩) hbb]; exact c0), (by rw [hw.cell (p := ⟨b, off + k * 2 + 1, none⟩) hbb]; exact c1)⟩
    go_upto_region 6 with fail
    refine wp_region_held_drew (S := (fun w' => w'.cell? ⟨b, off + k * 2, none⟩ = some (.int .i64 x0) ∧ w'.cell? ⟨b, off + k * 2 + 1, none⟩ = some (.int .i64 x1))) (by kernel_rfl) ?_ (fun hHeld => ?_)
    ·first | exact SK.out _ XB | exact SK.out _ zD
    have XB : Below wr.heap.size wr wr.drew := Below.drew (Below.refl _ _)
    generalize wr.drew = vx at *
    refine zT4 0 ?_
    refine zTk 4 ?_
    refine zQ 5 fun K hK => ?_
    go_simp
    refine (CA vx).mono ?_; rintro ee vy ⟨rfl, hvy⟩; (subst hvy)
    (try go_wp2_with fail)
    refine hK.out _ _ ?_ (fun hHeld => ?_)
    ·first | exact SK.out _ XB | exact SK.out _ zD
    clear hK K
    (try simp only [zA])
    refine zT2 6 ?_
    refine zTn 8 ?_
    refine zTn 9 ?_
    refine zTn 10 ?_
    refine zTn 11 ?_
    refine zTn 12 ?_
    refine zTn 13 ?_
    refine zTn 14 ?_
    refine zT2 15 ?_
    refine zTn 17 ?_
    refine zTn 18 ?_
    refine zTn 19 ?_
    refine zTn 20 ?_
    refine zTn 21 ?_
    refine zTn 22 ?_
    refine zTn 23 ?_
    refine zTn 24 ?_
    refine zTn 25 ?_
    refine zTn 26 ?_
    refine zTn 27 ?_
    refine zTn 28 ?_
    refine zTn 29 ?_
    refine zTn 30 ?_
    refine zTn 31 ?_
    refine zTn 32 ?_
    refine zTk 33 ?_
    refine wpAnyH_done (by kernel_rfl) ?_ _
    replace B := B.trans (XB.mono B.size)
    clear SK XB
    go_wp2_with fail
    go_ret
    exact ⟨ab (er HN.out HLT.out).symm, B⟩
   rw [h1] at CA
   cases h2 : okT x1
   ·have HN : Hid (hrA M (k + 1) = false) := by rw [Hid, HA.out, h1, h2]; rfl
    rw [h2] at CB
    clear HA hM hf hf' HS hA hlt
    have SK : Hid (∀ w', Below wr.heap.size wr w' → ((fun w' => w'.cell? ⟨b, off + k * 2, none⟩ = some (.int .i64 x0) ∧ w'.cell? ⟨b, off + k * 2 + 1, none⟩ = some (.int .i64 x1))) w') := fun w' hw => ⟨(by rw [hw.cell (p := ⟨b, off + k * 2, none⟩) hbb]; exact c0), (by rw [hw.cell (p := ⟨b, off + k * 2 + 1, none⟩) hbb]; exact c1)⟩
    go_upto_region 6 with fail
    refine wp_region_held_drew (S := (fun w' => w'.cell? ⟨b, off + k * 2, none⟩ = some (.int .i64 x0) ∧ w'.cell? ⟨b, off + k * 2 + 1, none⟩ = some (.int .i64 x1))) (by kernel_rfl) ?_ (fun hHeld => ?_)
    ·first | exact SK.out _ XB | exact SK.out _ zD
    have XB : Below wr.heap.size wr wr.drew := Below.drew (Below.refl _ _)
    generalize wr.drew = vx at *
    refine zT4 0 ?_
    refine zTk 4 ?_
    refine zQ 5 fun K hK => ?_
    go_simp
    refine (CA vx).mono ?_; rintro ee vy ⟨rfl, hvy⟩; (subst hvy)
    (try go_wp2_with fail)
    refine hK.out _ _ ?_ (fun hHeld => ?_)
    ·first | exact SK.out _ XB | exact SK.out _ zD
    clear hK K
    (try simp only [zA])
    refine zT4 6 ?_
    refine zT2 10 ?_
    refine zTk 12 ?_
    refine zQ 13 fun K hK => ?_
    go_simp
    refine (CB vx).mono ?_; rintro ee vy ⟨rfl, hvy⟩; (subst hvy)
    (try go_wp2_with fail)
    refine hK.out _ _ ?_ (fun hHeld => ?_)
    ·first | exact SK.out _ XB | exact SK.out _ zD
    clear hK K
    (try simp only [zA])
    refine zT2 14 ?_
    refine zTk 16 ?_
    refine zTn 17 ?_
    refine zTn 18 ?_
    refine zTn 19 ?_
    refine zTn 20 ?_
    refine zTn 21 ?_
    refine zTn 22 ?_
    refine zTn 23 ?_
    refine zTn 24 ?_
    refine zTn 25 ?_
    refine zTn 26 ?_
    refine zTn 27 ?_
    refine zTn 28 ?_
    refine zTn 29 ?_
    refine zTn 30 ?_
    refine zTn 31 ?_
    refine zTn 32 ?_
    refine zTk 33 ?_
    refine wpAnyH_done (by kernel_rfl) ?_ _
    replace B := B.trans (XB.mono B.size)
    clear SK XB
    go_wp2_with fail
    go_ret
    exact ⟨ab (er HN.out HLT.out).symm, B⟩
   rw [h2] at CB
   by_cases hk0 : k = 0
   ·have HT : Hid (hrA M (k + 1) = true) := by rw [Hid, HA.out, h1, h2, decide_eq_true hk0]; rfl
    have hd0 : decide (0 < (k : Int)) = false := decide_eq_false (by omega)
    have hd0n : decide (0 < k) = false := decide_eq_false (by omega)
    clear hk0
    clear HA hM hf hf' HS hA hlt
    have SK : Hid (∀ w', Below wr.heap.size wr w' → ((fun w' => w'.cell? ⟨b, off + k * 2, none⟩ = some (.int .i64 x0) ∧ w'.cell? ⟨b, off + k * 2 + 1, none⟩ = some (.int .i64 x1))) w') := fun w' hw => ⟨(by rw [hw.cell (p := ⟨b, off + k * 2, none⟩) hbb]; exact c0), (by rw [hw.cell (p := ⟨b, off + k * 2 + 1, none⟩) hbb]; exact c1)⟩
    go_upto_region 6 with fail
    refine wp_region_held_drew (S := (fun w' => w'.cell? ⟨b, off + k * 2, none⟩ = some (.int .i64 x0) ∧ w'.cell? ⟨b, off + k * 2 + 1, none⟩ = some (.int .i64 x1))) (by kernel_rfl) ?_ (fun hHeld => ?_)
    ·first | exact SK.out _ XB | exact SK.out _ zD
    have XB : Below wr.heap.size wr wr.drew := Below.drew (Below.refl _ _)
    generalize wr.drew = vx at *
    refine zT4 0 ?_
    refine zTk 4 ?_
    refine zQ 5 fun K hK => ?_
    go_simp
    refine (CA vx).mono ?_; rintro ee vy ⟨rfl, hvy⟩; (subst hvy)
    (try go_wp2_with fail)
    refine hK.out _ _ ?_ (fun hHeld => ?_)
    ·first | exact SK.out _ XB | exact SK.out _ zD
    clear hK K
    (try simp only [zA])
    refine zT4 6 ?_
    refine zT2 10 ?_
    refine zTk 12 ?_
    refine zQ 13 fun K hK => ?_
    go_simp
    refine (CB vx).mono ?_; rintro ee vy ⟨rfl, hvy⟩; (subst hvy)
    (try go_wp2_with fail)
    refine hK.out _ _ ?_ (fun hHeld => ?_)
    ·first | exact SK.out _ XB | exact SK.out _ zD
    clear hK K
    (try simp only [zA])
    refine zT4 14 ?_
    refine zTk 18 ?_
    (try simp only [hd0, hd0n])
    refine zTk 19 ?_
    refine zTn 20 ?_
    refine zTn 21 ?_
    refine zTn 22 ?_
    refine zTn 23 ?_
    refine zTn 24 ?_
    refine zTn 25 ?_
    refine zTn 26 ?_
    refine zTn 27 ?_
    refine zTn 28 ?_
    refine zTn 29 ?_
    refine zTn 30 ?_
    refine zTn 31 ?_
    refine zT2 32 ?_
    refine wpAnyH_done (by kernel_rfl) ?_ _
    replace B := B.trans (XB.mono B.size)
    clear SK XB
    go_wp2_with fail
    go_roundw
    case rel => exact ⟨k + 1, HLT.out, by go_num, HT.out, B⟩
    case measure => have hlt' := HLT.out; simp [intOf]; omega
   obtain ⟨ps, py, hP⟩ := dm M (k - 1)
   obtain ⟨cp, -⟩ := hf'.elIval (show k - 1 < n by omega) hP
   have hd0 : decide (0 < (k : Int)) = true := decide_eq_true (by omega)
   have hd0n : decide (0 < k) = true := decide_eq_true (by omega)
   have hw1 : IntKind.i64.wrap ((k : Int) - 1) = ((k - 1 : Nat) : Int) := by rw [show (k : Int) - 1 = ((k - 1 : Nat) : Int) by omega]; exact Go.IntWalk.i64_in _ ⟨by omega, by omega⟩
   have hx1 : wrap64 ((k : Int) - 1) = ((k - 1 : Nat) : Int) := by rw [show (k : Int) - 1 = ((k - 1 : Nat) : Int) by omega]; exact Go.IntWalk.wrap64_in _ ⟨by omega, by omega⟩
   have hpl : ((k - 1 : Nat) : Int) < (n : Int) := by omega
   have hps : (M (k - 1)).1 = ps := by rw [hP]
   by_cases h3 : x0 ≤ ps
   ·have HN : Hid (hrA M (k + 1) = false) := by rw [Hid, HA.out, h1, h2, hps, decide_eq_false hk0, decide_eq_false (show ¬ ps < x0 by omega)]; rfl
    have hdx : decide (x0 ≤ ps) = true := decide_eq_true h3
    clear HA hM hf hf' HS hA hlt hP hps
    have SK : Hid (∀ w', Below wr.heap.size wr w' → ((fun w' => w'.cell? ⟨b, off + k * 2, none⟩ = some (.int .i64 x0) ∧ w'.cell? ⟨b, off + k * 2 + 1, none⟩ = some (.int .i64 x1) ∧ w'.cell? ⟨b, off + (k - 1) * 2, none⟩ = some (.int .i64 ps))) w') := fun w' hw => ⟨(by rw [hw.cell (p := ⟨b, off + k * 2, none⟩) hbb]; exact c0), (by rw [hw.cell (p := ⟨b, off + k * 2 + 1, none⟩) hbb]; exact c1), (by rw [hw.cell (p := ⟨b, off + (k - 1) * 2, none⟩) hbb]; exact cp)⟩
    go_upto_region 6 with fail
    refine wp_region_held_drew (S := (fun w' => w'.cell? ⟨b, off + k * 2, none⟩ = some (.int .i64 x0) ∧ w'.cell? ⟨b, off + k * 2 + 1, none⟩ = some (.int .i64 x1) ∧ w'.cell? ⟨b, off + (k - 1) * 2, none⟩ = some (.int .i64 ps))) (by kernel_rfl) ?_ (fun hHeld => ?_)
    ·first | exact SK.out _ XB | exact SK.out _ zD
    have XB : Below wr.heap.size wr wr.drew := Below.drew (Below.refl _ _)
    generalize wr.drew = vx at *
    refine zT4 0 ?_
    refine zTk 4 ?_
    refine zQ 5 fun K hK => ?_
    go_simp
    refine (CA vx).mono ?_; rintro ee vy ⟨rfl, hvy⟩; (subst hvy)
    (try go_wp2_with fail)
    refine hK.out _ _ ?_ (fun hHeld => ?_)
    ·first | exact SK.out _ XB | exact SK.out _ zD
    clear hK K
    (try simp only [zA])
    refine zT4 6 ?_
    refine zT2 10 ?_
    refine zTk 12 ?_
    refine zQ 13 fun K hK => ?_
    go_simp
    refine (CB vx).mono ?_; rintro ee vy ⟨rfl, hvy⟩; (subst hvy)
    (try go_wp2_with fail)
    refine hK.out _ _ ?_ (fun hHeld => ?_)
    ·first | exact SK.out _ XB | exact SK.out _ zD
    clear hK K
    (try simp only [zA])
    refine zT4 14 ?_
    refine zTk 18 ?_
    (try simp only [hd0, hd0n])
    refine zT4 19 ?_
    (try simp only [hw1, hx1])
    refine zT8 23 ?_
    refine zTk 31 ?_
    (try simp only [hdx])
    refine zT2 32 ?_
    refine wpAnyH_done (by kernel_rfl) ?_ _
    replace B := B.trans (XB.mono B.size)
    clear SK XB
    go_wp2_with fail
    go_ret
    exact ⟨ab (er HN.out HLT.out).symm, B⟩
   ·have HT : Hid (hrA M (k + 1) = true) := by rw [Hid, HA.out, h1, h2, hps, decide_eq_true (show ps < x0 by omega)]; simp
    have hdx : decide (x0 ≤ ps) = false := decide_eq_false h3
    clear HA hM hf hf' HS hA hlt hP hps
    have SK : Hid (∀ w', Below wr.heap.size wr w' → ((fun w' => w'.cell? ⟨b, off + k * 2, none⟩ = some (.int .i64 x0) ∧ w'.cell? ⟨b, off + k * 2 + 1, none⟩ = some (.int .i64 x1) ∧ w'.cell? ⟨b, off + (k - 1) * 2, none⟩ = some (.int .i64 ps))) w') := fun w' hw => ⟨(by rw [hw.cell (p := ⟨b, off + k * 2, none⟩) hbb]; exact c0), (by rw [hw.cell (p := ⟨b, off + k * 2 + 1, none⟩) hbb]; exact c1), (by rw [hw.cell (p := ⟨b, off + (k - 1) * 2, none⟩) hbb]; exact cp)⟩
    go_upto_region 6 with fail
    refine wp_region_held_drew (S := (fun w' => w'.cell? ⟨b, off + k * 2, none⟩ = some (.int .i64 x0) ∧ w'.cell? ⟨b, off + k * 2 + 1, none⟩ = some (.int .i64 x1) ∧ w'.cell? ⟨b, off + (k - 1) * 2, none⟩ = some (.int .i64 ps))) (by kernel_rfl) ?_ (fun hHeld => ?_)
    ·first | exact SK.out _ XB | exact SK.out _ zD
    have XB : Below wr.heap.size wr wr.drew := Below.drew (Below.refl _ _)
    generalize wr.drew = vx at *
    refine zT4 0 ?_
    refine zTk 4 ?_
    refine zQ 5 fun K hK => ?_
    go_simp
    refine (CA vx).mono ?_; rintro ee vy ⟨rfl, hvy⟩; (subst hvy)
    (try go_wp2_with fail)
    refine hK.out _ _ ?_ (fun hHeld => ?_)
    ·first | exact SK.out _ XB | exact SK.out _ zD
    clear hK K
    (try simp only [zA])
    refine zT4 6 ?_
    refine zT2 10 ?_
    refine zTk 12 ?_
    refine zQ 13 fun K hK => ?_
    go_simp
    refine (CB vx).mono ?_; rintro ee vy ⟨rfl, hvy⟩; (subst hvy)
    (try go_wp2_with fail)
    refine hK.out _ _ ?_ (fun hHeld => ?_)
    ·first | exact SK.out _ XB | exact SK.out _ zD
    clear hK K
    (try simp only [zA])
    refine zT4 14 ?_
    refine zTk 18 ?_
    (try simp only [hd0, hd0n])
    refine zT4 19 ?_
    (try simp only [hw1, hx1])
    refine zT8 23 ?_
    refine zTk 31 ?_
    (try simp only [hdx])
    refine zT2 32 ?_
    refine wpAnyH_done (by kernel_rfl) ?_ _
    replace B := B.trans (XB.mono B.size)
    clear SK XB
    go_wp2_with fail
    go_roundw
    case rel => exact ⟨k + 1, HLT.out, by go_num, HT.out, B⟩
    case measure => have hlt' := HLT.out; simp [intOf]; omega
  ·have hkn : k = n := by omega
   subst hkn
   have HA : Hid (hrA M k = true) := hA
   clear hA hlt HS
   go_wp2_with fail
   go_ret
   exact ⟨ab (by rw [e0.out, HA.out]), B⟩
theorem pp (h : Bool) (l : Int) (w : World) :
 Calls Tryz.prog 38 #[.agg #[.bool h, .int .i64 l]] w fun e w' => e = .returned (.agg #[.bool h, .int .i64 l]) ∧ Below w.heap.size w w' := by
 go_enter Tryz.func38, Tryz.ntmps38
 go_wp2
 exact bodyPost_ret (v := .agg #[.bool h, .int .i64 l]) (by simp [results, Tryz.results38, go_sem]) rfl ⟨rfl, zB⟩
theorem mc (h : Bool) (l : Int) (w : World) :
 Calls Tryz.prog 48 #[.agg #[.bool h, .int .i64 l], .agg #[.bool h, .int .i64 l]] w fun e w' => e = .returned (.bool true) ∧ Below w.heap.size w w' := by
 have hx : (h != h) = false := by simp
 go_enter Tryz.func48, Tryz.ntmps48
 go_wp2
 go_ret
 exact ⟨rfl, zB⟩
theorem nl (m e s : Int) (w : World) :
 Calls Tryz.prog 34 #[.agg #[.int .i64 m, .int .i64 e, .int .i64 s]] w fun x w' => x = .returned (.agg #[.int .i64 m, .int .i64 e, .int .i64 s]) ∧ Below w.heap.size w w' := by
 go_enter Tryz.func34, Tryz.ntmps34
 go_wp2_with fail
 exact bodyPost_ret (v := .agg #[.int .i64 m, .int .i64 e, .int .i64 s]) (by simp (maxDischargeDepth := 6) [results, Tryz.results34, go_sem, *]) rfl ⟨rfl, zB⟩
theorem ki (m e s : Int) (w : World) :
 Calls Tryz.prog 44 #[.agg #[.int .i64 m, .int .i64 e, .int .i64 s], .agg #[.int .i64 m, .int .i64 e, .int .i64 s]] w fun x w' => x = .returned (.bool true) ∧ Below w.heap.size w w' := by
 go_enter Tryz.func44, Tryz.ntmps44
 go_wp2_with fail
 go_ret
 exact ⟨rfl, zB⟩
theorem oA (h : Bool) (l : Int) (w : World) : Calls Tryz.prog 190 #[.agg #[.bool h, .int .i64 l]] w fun e w' => e = .returned (.bool (apB h l)) ∧ Below w.heap.size w w' := by
 have A := Below.nw w (.cells #[.bool h, .int .i64 l] 54)
 by_cases h1 : -1000000000000 ≤ l
 ·by_cases h2 : l ≤ 1000000000000
  ·have e0 : apB h l = (h || (l == 0)) := by unfold apB inT; rw [decide_eq_true ⟨h1, h2⟩]; rfl
   rw [e0]
   clear e0
   cases h
   ·cases hz : (l == 0)
    all_goals
     go_enter Tryz.func190, Tryz.ntmps190
     go_wp2
     go_ret
     exact ⟨by first | rfl | (rw [hz]; rfl) | (simp; done), A⟩
   ·go_enter Tryz.func190, Tryz.ntmps190
    go_wp2
    go_ret
    exact ⟨rfl, A⟩
  ·have e0 : apB h l = false := by unfold apB inT; rw [decide_eq_false (by omega)]; rfl
   rw [e0]
   clear e0
   go_enter Tryz.func190, Tryz.ntmps190
   go_wp2
   go_ret
   exact ⟨rfl, A⟩
 ·have e0 : apB h l = false := by unfold apB inT; rw [decide_eq_false (by omega)]; rfl
  rw [e0]
  clear e0
  go_enter Tryz.func190, Tryz.ntmps190
  go_wp2
  go_ret
  exact ⟨rfl, A⟩
def mC (M : Nat → VT) : Nat → Int
 | 0 => -1
 | j + 1 => (M j).1
theorem mD {M : Nat → VT} : ∀ {k : Nat}, hrA M k = true → (k : Int) - 1 ≤ mC M k
 | 0, _ => by show (0 : Int) - 1 ≤ -1; decide
 | k + 1, h => by
  have h1 := pX h (Nat.lt_succ_self k)
  have h0 : hrA M k = true := by
   cases e : hrA M k
   ·rw [hrA, e, Bool.false_and] at h; exact absurd h (by decide)
   ·rfl
  have ih := mD h0
  have h2 := rK h1.1
  show ((k + 1 : Nat) : Int) - 1 ≤ (M k).1
  cases k with
  | zero => omega
  | succ j =>
   have h3 : (M j).1 < (M (j + 1)).1 := by
    rcases h1.2 with q | q
    ·omega
    ·simpa using q
   have ih' : ((j + 1 : Nat) : Int) - 1 ≤ (M j).1 := ih
   omega
theorem mj {M : Nat → VT} {n : Nat} (h : hrA M n = true) : hrB M n = true := by
 unfold hrB
 rw [h, Bool.and_true]
 refine decide_eq_true ?_
 cases n with
 | zero => omega
 | succ j =>
  have h1 := mD h
  have h2 := rK (pX h (Nat.lt_succ_self j)).1
  have h3 : ((j + 1 : Nat) : Int) - 1 ≤ (M j).1 := h1
  omega
theorem q9 {M : Nat → VT} {k : Nat} {x0 x1 : Int} (h : hrA M k = true) (hM : M k = (x0, x1)) : hrA M (k + 1) = (decide (mC M k < x0) && (decide (x0 < 16) && okT x1)) := by
 have hl := mD h
 rw [hrA, h, Bool.true_and, hM]
 unfold hrO
 cases k with
 | zero =>
  show (decide (0 ≤ x0 ∧ x0 ≤ 15) && okT x1 && (decide (0 = 0) || _)) = (decide ((-1 : Int) < x0) && (decide (x0 < 16) && okT x1))
  rw [Bool.eq_iff_iff]
  simp only [Bool.and_eq_true, Bool.or_eq_true, decide_eq_true_eq]
  constructor
  ·rintro ⟨⟨h1, h2⟩, h3⟩; exact ⟨by omega, by omega, h2⟩
  ·rintro ⟨h1, h2, h3⟩; exact ⟨⟨by omega, h3⟩, by first | trivial | exact Or.inl trivial | exact Or.inl rfl | simp⟩
 | succ j =>
  have hl' : ((j + 1 : Nat) : Int) - 1 ≤ (M j).1 := hl
  show (decide (0 ≤ x0 ∧ x0 ≤ 15) && okT x1 && (decide (j + 1 = 0) || decide ((M (j + 1 - 1)).1 < x0))) = (decide ((M j).1 < x0) && (decide (x0 < 16) && okT x1))
  rw [Nat.add_sub_cancel]
  generalize (M j).1 = z at *
  rw [Bool.eq_iff_iff]
  simp only [Bool.and_eq_true, Bool.or_eq_true, decide_eq_true_eq]
  constructor
  ·rintro ⟨⟨h1, h2⟩, h3⟩; exact ⟨by omega, by omega, h2⟩
  ·rintro ⟨h1, h2, h3⟩; exact ⟨⟨by omega, h3⟩, Or.inr h1⟩
theorem e8 (a : Option Addr) (n c : Nat) (M : Nat → VT) (w : World) (hm : n ≤ maxLen) (hs : az w a (n * 2) (au M)) :
 Calls Tryz.prog 191 #[.slice a n c] w fun e w' => e = .returned (.bool (hrB M n)) ∧ Below w.heap.size w w' := by
 have HS : Hid (az w a (n * 2) (au M)) := hs
 clear hs
 unfold maxLen at hm
 go_enter Tryz.func191, Tryz.ntmps191
 go_wp2_with fail
 go_loopw [3, 8] (fun l i wr => ∃ (k : Nat), k ≤ n ∧ l = .int .i64 (mC M k) ∧ i = .int .i64 k ∧ hrA M k = true ∧ Below w.heap.size w wr) (fun _ i _ => n - (intOf i).toNat)
 case atStart => exact ⟨0, Nat.zero_le _, rfl, rfl, rfl, Below.refl _ _⟩
 case round =>
  obtain ⟨k, hk, rfl, rfl, hA, B⟩ := hrel
  by_cases hlt : k < n
  ·obtain ⟨x0, x1, hM⟩ := dm M k
   obtain ⟨b, off, rfl, hf⟩ : ∃ b off, a = some ⟨b, off, none⟩ ∧ Cs w b off (n * 2) (au M) := by
    rcases HS.out with q | q
    ·exact absurd q (by omega)
    ·exact q
   obtain ⟨c0, c1⟩ := (hf.below B hf.1).elIval hlt hM
   have HLT : Hid (k < n) := hlt
   have hli : (k : Int) < (n : Int) := by omega
   have C1 := fun w' => aD x1 w'
   have A1 := Below.nw wr (.cells #[.int .i64 x0, .int .i64 x1] 159)
   replace B := B.trans (A1.mono B.size)
   have HX : Hid (hrA M (k + 1) = (decide (mC M k < x0) && (decide (x0 < 16) && okT x1))) := q9 hA hM
   have HNX : Hid (mC M (k + 1) = x0) := by rw [Hid, mC, hM]
   generalize mC M k = la at *
   clear hM hA hf A1 HS
   by_cases h1 : x0 ≤ la
   ·have HN : Hid (hrA M (k + 1) = false) := by rw [Hid, HX.out, decide_eq_false (by omega)]; rfl
    clear HX HNX C1
    go_wp2_with fail
    go_ret
    exact ⟨ab (er HN.out HLT.out).symm, B⟩
   by_cases h2 : 16 ≤ x0
   ·have HN : Hid (hrA M (k + 1) = false) := by rw [Hid, HX.out, decide_eq_false (p := x0 < 16) (by omega)]; simp
    clear HX HNX C1
    go_wp2_with fail
    go_ret
    exact ⟨ab (er HN.out HLT.out).symm, B⟩
   replace HX : Hid (hrA M (k + 1) = okT x1) := by rw [Hid, HX.out, decide_eq_true (p := x0 < 16) (by omega), decide_eq_true (p := la < x0) (by omega)]; rfl
   go_wp2_with fail
   refine (C1 _).mono ?_
   rintro e v1 ⟨rfl, rfl⟩
   cases h3 : okT x1
   ·have HN : Hid (hrA M (k + 1) = false) := by rw [Hid, HX.out, h3]
    clear HX HNX C1
    go_wp2_with fail
    go_ret
    exact ⟨ab (er HN.out HLT.out).symm, B⟩
   ·have HT : Hid (hrA M (k + 1) = true) := by rw [Hid, HX.out, h3]
    clear HX C1
    go_wp2_with fail
    go_roundw
    case rel => exact ⟨k + 1, HLT.out, by rw [HNX.out], by go_num, HT.out, B⟩
    case measure => have hlt' := HLT.out; simp [intOf]; omega
  ·have hkn : k = n := by omega
   subst hkn
   have hli : ¬ (k : Int) < (k : Int) := by omega
   have HR : Hid (hrB M k = true) := mj hA
   clear hA
   go_wp2_with fail
   go_ret
   exact ⟨ab HR.out.symm, B⟩
end Go.Proofs.YtikbjljkakabdaaGreat
