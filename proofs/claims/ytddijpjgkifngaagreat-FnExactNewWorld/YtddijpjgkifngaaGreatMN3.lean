/- Rows of peers: what the laws make of them, and whether two are the sam -/
import Derived.Deep.DeepCutAuto
import Derived.Test.YtddijpjgkifngaaGreatMN0
import Derived.Test.YtddijpjgkifngaaGreatMN1
import Derived.Test.YtddijpjgkifngaaGreatMN2
namespace Go.Proofs.YtddijpjgkifngaaGreat
open Go.RowKit
set_option linter.unusedVariables false
set_option maxRecDepth 100000
set_option maxHeartbeats 16000000
def Bx5 (w : World) (k : Nat) (u0 u1 u2 u3 u4 : Value) : Prop := k < w.heap.size ∧ w.cell? ⟨k, 0, none⟩ = some u0 ∧ w.cell? ⟨k, 1, none⟩ = some u1 ∧ w.cell? ⟨k, 2, none⟩ = some u2 ∧ w.cell? ⟨k, 3, none⟩ = some u3 ∧ w.cell? ⟨k, 4, none⟩ = some u4 ∧ w.frozen? ⟨k, 0, none⟩ = false ∧ w.frozen? ⟨k, 1, none⟩ = false ∧ w.frozen? ⟨k, 2, none⟩ = false ∧ w.frozen? ⟨k, 3, none⟩ = false ∧ w.frozen? ⟨k, 4, none⟩ = false
theorem Bx5.belowB {k B : Nat} {w w' : World} {u0 u1 u2 u3 u4 : Value} (h : Bx5 w k u0 u1 u2 u3 u4) (hw : Below B w w') (hk : k < B) : Bx5 w' k u0 u1 u2 u3 u4 := by
 obtain ⟨h0, h1, h2, h3, h4, h5, f1, f2, f3, f4, f5⟩ := h
 exact ⟨Nat.lt_of_lt_of_le h0 hw.size, by rw [hw.cell (p := ⟨k, 0, none⟩) hk]; exact h1, by rw [hw.cell (p := ⟨k, 1, none⟩) hk]; exact h2, by rw [hw.cell (p := ⟨k, 2, none⟩) hk]; exact h3, by rw [hw.cell (p := ⟨k, 3, none⟩) hk]; exact h4, by rw [hw.cell (p := ⟨k, 4, none⟩) hk]; exact h5, by rw [hw.frozen (p := ⟨k, 0, none⟩) hk]; exact f1, by rw [hw.frozen (p := ⟨k, 1, none⟩) hk]; exact f2, by rw [hw.frozen (p := ⟨k, 2, none⟩) hk]; exact f3, by rw [hw.frozen (p := ⟨k, 3, none⟩) hk]; exact f4, by rw [hw.frozen (p := ⟨k, 4, none⟩) hk]; exact f5⟩
theorem Bx5.below {k : Nat} {w w' : World} {u0 u1 u2 u3 u4 : Value} (h : Bx5 w k u0 u1 u2 u3 u4) (hw : Below w.heap.size w w') : Bx5 w' k u0 u1 u2 u3 u4 := h.belowB hw h.1
theorem Bx5.but {w w' : World} {k q : Nat} {u0 u1 u2 u3 u4 : Value} (h : Bx5 w k u0 u1 u2 u3 u4) (hb : But q w w') (hq : k ≠ q) : Bx5 w' k u0 u1 u2 u3 u4 := by
 obtain ⟨h0, h1, h2, h3, h4, h5, f1, f2, f3, f4, f5⟩ := h
 exact ⟨Nat.lt_of_lt_of_le h0 hb.2.2.2.1, by rw [hb.cell h0 hq]; exact h1, by rw [hb.cell h0 hq]; exact h2, by rw [hb.cell h0 hq]; exact h3, by rw [hb.cell h0 hq]; exact h4, by rw [hb.cell h0 hq]; exact h5, by rw [hb.frozen h0 hq]; exact f1, by rw [hb.frozen h0 hq]; exact f2, by rw [hb.frozen h0 hq]; exact f3, by rw [hb.frozen h0 hq]; exact f4, by rw [hb.frozen h0 hq]; exact f5⟩
theorem Bx5.alloc {k : Nat} {w : World} {u0 u1 u2 u3 u4 : Value} (h : Bx5 w k u0 u1 u2 u3 u4) (o : Obj) : Bx5 (w.alloc o) k u0 u1 u2 u3 u4 := h.below ((Below.refl _ _).alloc (Nat.le_refl _) _)
theorem Bx5.new (w : World) (u0 u1 u2 u3 u4 : Value) (T : TypeId) : Bx5 (w.alloc (.cells #[u0, u1, u2, u3, u4] T)) w.heap.size u0 u1 u2 u3 u4 := ⟨by simp, by simp, by simp, by simp, by simp, by simp, by simp, by simp, by simp, by simp, by simp⟩
theorem Bx5.drew {k : Nat} {w : World} {u0 u1 u2 u3 u4 : Value} (h : Bx5 w k u0 u1 u2 u3 u4) : Bx5 w.drew k u0 u1 u2 u3 u4 := h
theorem Bx5.setO {k j : Nat} {w : World} {u0 u1 u2 u3 u4 : Value} (h : Bx5 w k u0 u1 u2 u3 u4) (hk : j ≠ k) (o : Nat) (u : Value) : Bx5 (w.setCell ⟨j, o, none⟩ u) k u0 u1 u2 u3 u4 := by
 have hne : ∀ q, (⟨j, o, none⟩ : Addr) ≠ ⟨k, q, none⟩ := fun q e => hk (congrArg Addr.block e)
 obtain ⟨h0, h1, h2, h3, h4, h5, f1, f2, f3, f4, f5⟩ := h
 exact ⟨by simpa using h0, by rw [World.cell?_setCell_other _ _ _ _ (hne _)]; exact h1, by rw [World.cell?_setCell_other _ _ _ _ (hne _)]; exact h2, by rw [World.cell?_setCell_other _ _ _ _ (hne _)]; exact h3, by rw [World.cell?_setCell_other _ _ _ _ (hne _)]; exact h4, by rw [World.cell?_setCell_other _ _ _ _ (hne _)]; exact h5, by simpa using f1, by simpa using f2, by simpa using f3, by simpa using f4, by simpa using f5⟩
theorem Bx5.set0 {k : Nat} {w : World} {u0 u1 u2 u3 u4 : Value} (h : Bx5 w k u0 u1 u2 u3 u4) (x : Value) : Bx5 (w.setCell ⟨k, 0, none⟩ x) k x u1 u2 u3 u4 := by
 obtain ⟨h0, h1, h2, h3, h4, h5, f1, f2, f3, f4, f5⟩ := h
 exact ⟨by simpa using h0, World.cell?_setCell_same _ _ _ h1, (zO (by simp)).trans h2, (zO (by simp)).trans h3, (zO (by simp)).trans h4, (zO (by simp)).trans h5, by simpa using f1, by simpa using f2, by simpa using f3, by simpa using f4, by simpa using f5⟩
theorem Bx5.set1 {k : Nat} {w : World} {u0 u1 u2 u3 u4 : Value} (h : Bx5 w k u0 u1 u2 u3 u4) (x : Value) : Bx5 (w.setCell ⟨k, 1, none⟩ x) k u0 x u2 u3 u4 := by
 obtain ⟨h0, h1, h2, h3, h4, h5, f1, f2, f3, f4, f5⟩ := h
 exact ⟨by simpa using h0, (zO (by simp)).trans h1, World.cell?_setCell_same _ _ _ h2, (zO (by simp)).trans h3, (zO (by simp)).trans h4, (zO (by simp)).trans h5, by simpa using f1, by simpa using f2, by simpa using f3, by simpa using f4, by simpa using f5⟩
theorem Bx5.set2 {k : Nat} {w : World} {u0 u1 u2 u3 u4 : Value} (h : Bx5 w k u0 u1 u2 u3 u4) (x : Value) : Bx5 (w.setCell ⟨k, 2, none⟩ x) k u0 u1 x u3 u4 := by
 obtain ⟨h0, h1, h2, h3, h4, h5, f1, f2, f3, f4, f5⟩ := h
 exact ⟨by simpa using h0, (zO (by simp)).trans h1, (zO (by simp)).trans h2, World.cell?_setCell_same _ _ _ h3, (zO (by simp)).trans h4, (zO (by simp)).trans h5, by simpa using f1, by simpa using f2, by simpa using f3, by simpa using f4, by simpa using f5⟩
theorem Bx5.set3 {k : Nat} {w : World} {u0 u1 u2 u3 u4 : Value} (h : Bx5 w k u0 u1 u2 u3 u4) (x : Value) : Bx5 (w.setCell ⟨k, 3, none⟩ x) k u0 u1 u2 x u4 := by
 obtain ⟨h0, h1, h2, h3, h4, h5, f1, f2, f3, f4, f5⟩ := h
 exact ⟨by simpa using h0, (zO (by simp)).trans h1, (zO (by simp)).trans h2, (zO (by simp)).trans h3, World.cell?_setCell_same _ _ _ h4, (zO (by simp)).trans h5, by simpa using f1, by simpa using f2, by simpa using f3, by simpa using f4, by simpa using f5⟩
theorem Bx5.set4 {k : Nat} {w : World} {u0 u1 u2 u3 u4 : Value} (h : Bx5 w k u0 u1 u2 u3 u4) (x : Value) : Bx5 (w.setCell ⟨k, 4, none⟩ x) k u0 u1 u2 u3 x := by
 obtain ⟨h0, h1, h2, h3, h4, h5, f1, f2, f3, f4, f5⟩ := h
 exact ⟨by simpa using h0, (zO (by simp)).trans h1, (zO (by simp)).trans h2, (zO (by simp)).trans h3, (zO (by simp)).trans h4, World.cell?_setCell_same _ _ _ h5, by simpa using f1, by simpa using f2, by simpa using f3, by simpa using f4, by simpa using f5⟩
abbrev PT : Type := Int × Int × Int × Int × Bool
theorem fV (x0 x1 x2 x3 : Int) (x4 : Bool) (w : World) :
 Calls Tryz.prog 187 #[.agg #[.int .i64 x0, .int .i64 x1, .int .i64 x2, .int .i64 x3, .bool x4], .agg #[.int .i64 x0, .int .i64 x1, .int .i64 x2, .int .i64 x3, .bool x4]] w fun e w' => e = .returned (.bool true) ∧ Below w.heap.size w w' := by
 go_enter Tryz.func187, Tryz.ntmps187
 go_wp2_with (first | (go_at_call 132; refine (cL _ _ _).mono ?_; rintro e w' ⟨rfl, hb⟩; obtain ⟨hc, hf⟩ := iD hb; (first | have hB := Below.trans (Below.trans hB zB) (Below.mono hb zL) | have hB := hb); obtain ⟨hC, hF⟩ := iD hB; have hz := hb.size; (try simp at hz); (first | have hz0 := zH4 w w' | have hz0 := zH3 w w' | have hz0 := zH2 w w' | have hz0 := zH1 w w' | skip)))
 go_ret
 exact ⟨rfl, zB⟩
def jk (M : PT) : Nat → Value
 | 0 => .int .i64 M.1
 | 1 => .int .i64 M.2.1
 | 2 => .int .i64 M.2.2.1
 | 3 => .int .i64 M.2.2.2.1
 | _ => .bool M.2.2.2.2
def ay (M : Nat → PT) (c : Nat) : Value := jk (M (c / 5)) (c % 5)
theorem bB (M : Nat → PT) (k j : Nat) (hj : j < 5) : ay M (k * 5 + j) = jk (M k) j := by
 have h1 : (k * 5 + j) / 5 = k := by omega
 have h2 : (k * 5 + j) % 5 = j := by omega
 rw [ay, h1, h2]
theorem fG {M : Nat → PT} {k : Nat} {x0 : Int} {x1 : Int} {x2 : Int} {x3 : Int} {x4 : Bool} (hM : M k = (x0, x1, x2, x3, x4)) : ay M (k * 5) = .int .i64 x0 ∧ ay M (k * 5 + 1) = .int .i64 x1 ∧ ay M (k * 5 + 2) = .int .i64 x2 ∧ ay M (k * 5 + 3) = .int .i64 x3 ∧ ay M (k * 5 + 4) = .bool x4 :=
 ⟨by have q := bB M k 0 (by decide); rw [hM] at q; exact q, by have q := bB M k 1 (by decide); rw [hM] at q; exact q, by have q := bB M k 2 (by decide); rw [hM] at q; exact q, by have q := bB M k 3 (by decide); rw [hM] at q; exact q, by have q := bB M k 4 (by decide); rw [hM] at q; exact q⟩
theorem Cs.elPeer {w : World} {b off n k : Nat} {M : Nat → PT} {x0 : Int} {x1 : Int} {x2 : Int} {x3 : Int} {x4 : Bool} (h : Cs w b off (n * 5) (ay M)) (hk : k < n) (hM : M k = (x0, x1, x2, x3, x4)) : w.cell? ⟨b, off + k * 5, none⟩ = some (.int .i64 x0) ∧ w.cell? ⟨b, off + k * 5 + 1, none⟩ = some (.int .i64 x1) ∧ w.cell? ⟨b, off + k * 5 + 2, none⟩ = some (.int .i64 x2) ∧ w.cell? ⟨b, off + k * 5 + 3, none⟩ = some (.int .i64 x3) ∧ w.cell? ⟨b, off + k * 5 + 4, none⟩ = some (.bool x4) := by
 obtain ⟨q0, q1, q2, q3, q4⟩ := fG hM
 exact ⟨by have := h.2 (k * 5) (by omega); rw [q0] at this; exact this, by have := h.2 (k * 5 + 1) (by omega); rw [q1] at this; exact this, by have := h.2 (k * 5 + 2) (by omega); rw [q2] at this; exact this, by have := h.2 (k * 5 + 3) (by omega); rw [q3] at this; exact this, by have := h.2 (k * 5 + 4) (by omega); rw [q4] at this; exact this⟩
theorem bz (M : Nat → PT) (k : Nat) : ∃ (x0 : Int) (x1 : Int) (x2 : Int) (x3 : Int) (x4 : Bool), M k = (x0, x1, x2, x3, x4) := ⟨_, _, _, _, _, rfl⟩
theorem eW (b off b' off' n c c' : Nat) (M : Nat → PT) (w : World) (hn : n ≤ maxLen) (hf : Cs w b off (n * 5) (ay M)) (hg : Cs w b' off' (n * 5) (ay M)) :
 Calls Tryz.prog 156 #[.slice (some ⟨b, off, none⟩) n c, .slice (some ⟨b', off', none⟩) n c'] w fun e w' => e = .returned (.bool true) ∧ Below w.heap.size w w' := by
 unfold maxLen at hn
 go_enter Tryz.func156, Tryz.ntmps156
 go_wp2_with fail
 go_loopw [5] (fun i wr => ∃ k : Nat, k ≤ n ∧ i = .int .i64 k ∧ Below w.heap.size w wr) (fun i _ => n - (intOf i).toNat)
 case atStart => exact ⟨0, Nat.zero_le _, rfl, Below.refl _ _⟩
 case round =>
  obtain ⟨k, hk, rfl, hB⟩ := hrel
  by_cases hlt : k < n
  ·obtain ⟨x0, x1, x2, x3, x4, hM⟩ := bz M k
   obtain ⟨c0, c1, c2, c3, c4⟩ := (hf.below hB hf.1).elPeer hlt hM
   obtain ⟨d0, d1, d2, d3, d4⟩ := (hg.below hB hg.1).elPeer hlt hM
   have hb1 : b < wr.drew.heap.size := Nat.lt_of_lt_of_le hf.1 hB.size
   have hb2 : b' < wr.drew.heap.size := Nat.lt_of_lt_of_le hg.1 hB.size
   have hsz : w.heap.size ≤ wr.drew.heap.size := hB.size
   have hli : (k : Int) < (n : Int) := by omega
   clear hM
   go_wp2_with fail
   refine wp_region_held_drew (S := (fun w' => w'.cell? ⟨b, off + k * 5, none⟩ = some (.int .i64 x0) ∧ w'.cell? ⟨b, off + k * 5 + 1, none⟩ = some (.int .i64 x1) ∧ w'.cell? ⟨b, off + k * 5 + 2, none⟩ = some (.int .i64 x2) ∧ w'.cell? ⟨b, off + k * 5 + 3, none⟩ = some (.int .i64 x3) ∧ w'.cell? ⟨b, off + k * 5 + 4, none⟩ = some (.bool x4) ∧ w'.cell? ⟨b', off' + k * 5, none⟩ = some (.int .i64 x0) ∧ w'.cell? ⟨b', off' + k * 5 + 1, none⟩ = some (.int .i64 x1) ∧ w'.cell? ⟨b', off' + k * 5 + 2, none⟩ = some (.int .i64 x2) ∧ w'.cell? ⟨b', off' + k * 5 + 3, none⟩ = some (.int .i64 x3) ∧ w'.cell? ⟨b', off' + k * 5 + 4, none⟩ = some (.bool x4))) (by kernel_rfl) ?_ (fun hHeld => ?_)
   ·first | exact ⟨c0, c1, c2, c3, c4, d0, d1, d2, d3, d4⟩ | (simp (maxDischargeDepth := 6) [go_sem, *]; done)
   refine zT8 0 ?_
   refine zQ 8 fun K hK => ?_
   go_simp
   refine (fV _ _ _ _ _ _).mono ?_; rintro e w' ⟨rfl, hb⟩; (replace c0 := (hb.cell (p := ⟨b, off + k * 5, none⟩) hb1).trans c0); (replace c1 := (hb.cell (p := ⟨b, off + k * 5 + 1, none⟩) hb1).trans c1); (replace c2 := (hb.cell (p := ⟨b, off + k * 5 + 2, none⟩) hb1).trans c2); (replace c3 := (hb.cell (p := ⟨b, off + k * 5 + 3, none⟩) hb1).trans c3); (replace c4 := (hb.cell (p := ⟨b, off + k * 5 + 4, none⟩) hb1).trans c4); (replace d0 := (hb.cell (p := ⟨b', off' + k * 5, none⟩) hb2).trans d0); (replace d1 := (hb.cell (p := ⟨b', off' + k * 5 + 1, none⟩) hb2).trans d1); (replace d2 := (hb.cell (p := ⟨b', off' + k * 5 + 2, none⟩) hb2).trans d2); (replace d3 := (hb.cell (p := ⟨b', off' + k * 5 + 3, none⟩) hb2).trans d3); (replace d4 := (hb.cell (p := ⟨b', off' + k * 5 + 4, none⟩) hb2).trans d4)
   (try go_wp2_with fail)
   refine hK.out _ _ ?_ (fun hHeld => ?_)
   ·first | exact ⟨c0, c1, c2, c3, c4, d0, d1, d2, d3, d4⟩ | (simp (maxDischargeDepth := 6) [go_sem, *]; done)
   clear hK K
   (try simp only [zA])
   refine zTk 9 ?_
   refine wpAnyH_done (by kernel_rfl) ?_ _
   go_wp2_with fail
   go_roundw
   case rel => exact ⟨k + 1, by omega, by go_num, (Below.drew hB).trans (hb.mono hsz)⟩
   case measure => simp [intOf]; omega
  ·go_wp2_with fail
   go_ret
   exact ⟨rfl, hB⟩
theorem eX (a a' : Option Addr) (c c' : Nat) (w : World) :
 Calls Tryz.prog 156 #[.slice a 0 c, .slice a' 0 c'] w fun e w' => e = .returned (.bool true) ∧ Below w.heap.size w w' := by
 go_enter Tryz.func156, Tryz.ntmps156
 go_wp2_with fail
 go_loopw [5] (fun i wr => i = .int .i64 0 ∧ w = wr) (fun i _ => 0)
 case atStart => exact ⟨rfl, rfl⟩
 case round =>
  obtain ⟨rfl, rfl⟩ := hrel
  go_wp2_with fail
  go_ret
  exact ⟨rfl, Below.refl _ _⟩
theorem fU (a a' : Option Addr) (n c c' : Nat) (M : Nat → PT) (w : World) (hn : n ≤ maxLen) (h : ae w a (n * 5) (ay M)) (h' : ae w a' (n * 5) (ay M)) :
 Calls Tryz.prog 156 #[.slice a n c, .slice a' n c'] w fun e w' => e = .returned (.bool true) ∧ Below w.heap.size w w' := by
 by_cases h0 : n = 0
 ·subst h0; exact eX a a' c c' w
 ·rcases h with h | ⟨b, off, rfl, hp⟩
  ·omega
  ·rcases h' with h | ⟨b', off', rfl, hp'⟩
   ·omega
   ·exact eW b off b' off' n c c' M w hn hp hp'
def kx (q : Int) (c : Nat) : Value := if c % 5 = 4 then .bool ((q + (c : Int)) % 3 == 0) else .int .i64 (q + (c : Int))
theorem dJ (a : Option Addr) (c : Nat) (q0 : Int) (w : World) :
 Calls Tryz.prog 119 #[.slice a 0 c, .int .i64 q0] w fun e w' => e = .returned (.int .i64 q0) ∧ w = w' := by
 go_enter Tryz.func119, Tryz.ntmps119
 go_wp2_with fail
 go_loopw [1, 5] (fun q i wr => i = .int .i64 0 ∧ q = .int .i64 q0 ∧ w = wr) (fun _ i _ => 0)
 case atStart => exact ⟨rfl, rfl, by first | rfl | trivial⟩
 case round =>
  obtain ⟨rfl, rfl, rfl⟩ := hrel
  go_wp2_with fail
  go_ret
  exact ⟨rfl, rfl⟩
theorem dA (a : Option Addr) (c : Nat) (q0 : Int) (w : World) :
 Calls Tryz.prog 125 #[.slice a 0 c, .int .i64 q0] w fun e w' => e = .returned (.int .i64 q0) ∧ w = w' := by
 go_enter Tryz.func125, Tryz.ntmps125
 go_wp2_with fail
 go_loopw [1, 5] (fun q i wr => i = .int .i64 0 ∧ q = .int .i64 q0 ∧ w = wr) (fun _ i _ => 0)
 case atStart => exact ⟨rfl, rfl, by first | rfl | trivial⟩
 case round =>
  obtain ⟨rfl, rfl, rfl⟩ := hrel
  go_wp2_with fail
  go_ret
  exact ⟨rfl, rfl⟩
def pOk (M : PT) : Bool := aO M.1 && okI M.2.1 M.2.2.1 && okT M.2.2.2.1
def prv (M : Nat → PT) : Nat → Int
 | 0 => -1
 | k + 1 => (M k).1
def elP (M : Nat → PT) (k : Nat) : Bool := pOk (M k) && decide (prv M k < (M k).1)
def oks (M : Nat → PT) : Nat → Bool
 | 0 => true
 | k + 1 => oks M k && elP M k
theorem gp {M : Nat → PT} {k : Nat} (h : oks M k = true) (h2 : elP M k = true) : oks M (k + 1) = true := by rw [oks, h, h2]; rfl
theorem im {M : Nat → PT} {k : Nat} (h : elP M k = false) : ∀ n, k < n → oks M n = false
 | 0, hk => absurd hk (Nat.not_lt_zero _)
 | n + 1, hk => by
  rw [oks]
  by_cases e : k = n
  ·subst e; rw [h]; simp
  ·rw [im h n (by omega)]; rfl
theorem fn {M : Nat → PT} : ∀ {n : Nat}, oks M n = true → ∀ k, k < n → elP M k = true
 | 0, _, k, hk => absurd hk (Nat.not_lt_zero _)
 | n + 1, h, k, hk => by
  rw [oks, Bool.and_eq_true] at h
  by_cases e : k = n
  ·subst e; exact h.2
  ·exact fn h.1 k (by omega)
theorem ij {x : Int} (h : aO x = true) : 0 ≤ x ∧ x ≤ 7 := of_decide_eq_true h
theorem jo {M : Nat → PT} {k : Nat} (h : elP M k = true) : pOk (M k) = true ∧ prv M k < (M k).1 := by simpa [elP] using h
theorem kg {m : PT} (h : pOk m = true) : aO m.1 = true ∧ okI m.2.1 m.2.2.1 = true ∧ okT m.2.2.2.1 = true := by
 unfold pOk at h
 simp only [Bool.and_eq_true] at h
 exact ⟨h.1.1, h.1.2, h.2⟩
theorem jN {M : Nat → PT} {n : Nat} (h : oks M n = true) : ∀ k, k < n → (k : Int) ≤ (M k).1
 | 0, hk => by
  have := ij (kg (jo (fn h 0 hk)).1).1
  omega
 | k + 1, hk => by
  have h1 := jN h k (by omega)
  have h2 : (M k).1 < (M (k + 1)).1 := (jo (fn h (k + 1) hk)).2
  omega
theorem jO {M : Nat → PT} {n : Nat} (h : oks M n = true) : n ≤ 8 := by
 by_cases hn : n ≤ 8
 ·exact hn
 ·have h1 := jN h (n - 1) (by omega)
  have h2 := ij (kg (jo (fn h (n - 1) (by omega))).1).1
  omega
theorem jP {M : Nat → PT} {n : Nat} (h : ¬ n ≤ 8) : oks M n = false := by
 cases e : oks M n
 ·rfl
 ·exact absurd (jO e) h
theorem ch (x0 x1 x2 x3 : Int) (x4 : Bool) (w : World) :
 Calls Tryz.prog 210 #[.agg #[.int .i64 x0, .int .i64 x1, .int .i64 x2, .int .i64 x3, .bool x4]] w fun e w' => e = .returned (.bool (pOk (x0, x1, x2, x3, x4))) ∧ Below w.heap.size w w' := by
 have HB : Hid (pOk (x0, x1, x2, x3, x4) = (aO x0 && okI x1 x2 && okT x3)) := rfl
 have A0 := Below.nw w (.cells #[.int .i64 x0, .int .i64 x1, .int .i64 x2, .int .i64 x3, .bool x4] 157)
 cases h1 : aO x0
 ·go_enter Tryz.func210, Tryz.ntmps210
  go_wp2_with fail
  refine (au _ _).mono ?_
  rintro e w' ⟨rfl, rfl⟩
  rw [h1]
  go_wp2_with fail
  go_ret
  exact ⟨ab (by rw [HB.out, h1]; rfl), A0⟩
 ·have P := Bx5.new w (.int .i64 x0) (.int .i64 x1) (.int .i64 x2) (.int .i64 x3) (.bool x4) 157
  cases h2 : okI x1 x2
  ·go_enter Tryz.func210, Tryz.ntmps210
   go_wp2_with fail
   refine (au _ _).mono ?_
   rintro e w' ⟨rfl, rfl⟩
   rw [h1]
   go_wp2_with fail
   refine (il _ _ _).mono ?_
   rintro e w1 ⟨rfl, hb⟩
   rw [h2]
   have A1 := A0.trans (hb.mono A0.size)
   clear hb
   go_wp2_with fail
   go_ret
   exact ⟨ab (by rw [HB.out, h2]; simp), A1⟩
  ·go_enter Tryz.func210, Tryz.ntmps210
   go_wp2_with fail
   refine (au _ _).mono ?_
   rintro e w' ⟨rfl, rfl⟩
   rw [h1]
   go_wp2_with fail
   refine (il _ _ _).mono ?_
   rintro e w1 ⟨rfl, hb⟩
   rw [h2]
   have A1 := A0.trans (hb.mono A0.size)
   obtain ⟨k9, k0, k1, k2, k3, k4, f0, f1, f2, f3, f4⟩ := P.below hb
   clear hb P
   go_wp2_with fail
   refine (aD _ _).mono ?_
   rintro e w' ⟨rfl, rfl⟩
   go_wp2_with fail
   go_ret
   exact ⟨ab (by rw [HB.out, h1, h2]; simp), A1⟩
theorem cA (b off n c : Nat) (M : Nat → PT) (w : World) (hn : n ≤ maxLen) (hf : Cs w b off (n * 5) (ay M)) :
 Calls Tryz.prog 197 #[.slice (some ⟨b, off, none⟩) n c] w fun e w' => e = .returned (.bool (oks M n)) ∧ Below w.heap.size w w' := by
 unfold maxLen at hn
 go_enter Tryz.func197, Tryz.ntmps197
 go_wp2_with fail
 go_loopw [3, 8] (fun l i wr => ∃ k : Nat, k ≤ n ∧ i = .int .i64 k ∧ l = .int .i64 (prv M k) ∧ oks M k = true ∧ Below w.heap.size w wr) (fun _ i _ => n - (intOf i).toNat)
 case atStart => exact ⟨0, Nat.zero_le _, rfl, rfl, rfl, Below.refl _ _⟩
 case round =>
  obtain ⟨k, hk, rfl, rfl, hok, hB⟩ := hrel
  have HOK : Hid (oks M k = true) := hok
  clear hok
  by_cases hlt : k < n
  ·obtain ⟨x0, x1, x2, x3, x4, hM⟩ := bz M k
   obtain ⟨c0, c1, c2, c3, c4⟩ := (hf.below hB hf.1).elPeer hlt hM
   have hli : (k : Int) < (n : Int) := by omega
   have HEL : Hid (elP M k = (pOk (x0, x1, x2, x3, x4) && decide (prv M k < x0))) := by rw [Hid, elP, hM]
   have HPV : Hid (prv M (k + 1) = x0) := by rw [Hid, prv, hM]
   have HNO : Hid (elP M k = false → oks M n = false) := fun h => im h n hlt
   have hbr : b < wr.heap.size := Nat.lt_of_lt_of_le hf.1 hB.size
   clear hM
   have A1 := Below.nw wr (.cells #[.int .i64 x0, .int .i64 x1, .int .i64 x2, .int .i64 x3, .bool x4] 157)
   have K := Bx5.new wr (.int .i64 x0) (.int .i64 x1) (.int .i64 x2) (.int .i64 x3) (.bool x4) 157
   have B1 := hB.trans (A1.mono hB.size)
   generalize prv M k = pl at *
   go_upto_region 5 with fail
   clear c0 c1 c2 c3 c4
   generalize hbk : wr.heap.size = bk at *
   generalize wr.alloc (.cells #[.int .i64 x0, .int .i64 x1, .int .i64 x2, .int .i64 x3, .bool x4] 157) = w1 at *
   clear A1
   obtain ⟨k9, k0, k1, k2, k3, k4, f0, f1, f2, f3, f4⟩ := id K
   cases h1 : pOk (x0, x1, x2, x3, x4)
   ·have HB' : Hid (oks M n = false) := HNO.out (by rw [HEL.out, h1]; rfl)
    go_wp2_with fail
    refine (ch _ _ _ _ _ _).mono ?_
    rintro e w2 ⟨rfl, hb⟩
    rw [h1]
    have B2 := B1.trans (hb.mono B1.size)
    clear hb k0 k1 k2 k3 k4 f0 f1 f2 f3 f4
    go_wp2_with fail
    go_ret
    exact ⟨ab HB'.out.symm, B2⟩
   ·by_cases h2 : x0 ≤ pl
    ·have HB' : Hid (oks M n = false) := HNO.out (by rw [HEL.out, h1]; simp; omega)
     go_wp2_with fail
     refine (ch _ _ _ _ _ _).mono ?_
     rintro e w2 ⟨rfl, hb⟩
     rw [h1]
     have B2 := B1.trans (hb.mono B1.size)
     clear k9 k0 k1 k2 k3 k4 f0 f1 f2 f3 f4
     obtain ⟨k9, k0, k1, k2, k3, k4, f0, f1, f2, f3, f4⟩ := K.below hb
     clear hb
     go_wp2_with fail
     go_ret
     exact ⟨ab HB'.out.symm, B2⟩
    ·have HST : Hid (oks M (k + 1) = true) := gp HOK.out (by rw [HEL.out, h1]; simp; omega)
     go_wp2_with fail
     refine (ch _ _ _ _ _ _).mono ?_
     rintro e w2 ⟨rfl, hb⟩
     rw [h1]
     have B2 := B1.trans (hb.mono B1.size)
     clear k9 k0 k1 k2 k3 k4 f0 f1 f2 f3 f4
     obtain ⟨k9, k0, k1, k2, k3, k4, f0, f1, f2, f3, f4⟩ := K.below hb
     clear hb
     go_wp2_with fail
     go_roundw
     case rel => exact ⟨k + 1, by omega, by go_num, by rw [HPV.out], HST.out, B2⟩
     case measure => simp [intOf]; omega
  ·have hkn : k = n := by omega
   subst hkn
   have hli : ¬ (k : Int) < (k : Int) := by omega
   generalize prv M k = pl at *
   go_wp2_with fail
   go_ret
   exact ⟨ab HOK.out.symm, hB⟩
theorem cC (a : Option Addr) (c : Nat) (M : Nat → PT) (w : World) :
 Calls Tryz.prog 197 #[.slice a 0 c] w fun e w' => e = .returned (.bool (oks M 0)) ∧ Below w.heap.size w w' := by
 go_enter Tryz.func197, Tryz.ntmps197
 go_wp2_with fail
 go_loopw [3, 8] (fun l i wr => l = .int .i64 (-1) ∧ i = .int .i64 0 ∧ w = wr) (fun _ i _ => 0)
 case atStart => exact ⟨rfl, rfl, by first | rfl | trivial⟩
 case round =>
  obtain ⟨rfl, rfl, rfl⟩ := hrel
  go_wp2_with fail
  go_ret
  exact ⟨rfl, Below.refl _ _⟩
theorem cS (a : Option Addr) (n c : Nat) (M : Nat → PT) (w : World) (hn : n ≤ maxLen) (h : ae w a (n * 5) (ay M)) :
 Calls Tryz.prog 197 #[.slice a n c] w fun e w' => e = .returned (.bool (oks M n)) ∧ Below w.heap.size w w' := by
 rcases h with h0 | ⟨b, off, rfl, h2⟩
 ·have hn0 : n = 0 := by omega
  subst hn0
  exact cC a c M w
 ·exact cA b off n c M w hn h2
end Go.Proofs.YtddijpjgkifngaaGreat
