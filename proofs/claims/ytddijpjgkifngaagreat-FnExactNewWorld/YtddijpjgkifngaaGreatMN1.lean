/- The cursor of the draws: what l1Byte, l1Below, l1Once and l1PickInt le -/
import Derived.Test.YtddijpjgkifngaaGreatRows
import Derived.WalkKit
import Derived.WalkSpells
import Derived.WalkLawsBesides
import Derived.Deep.QuietTactic
import Derived.BigQuiet
import Derived.Deep.OwnRows
import Derived.Deep.RegionHeld
import Derived.Laws.BytesArg
import Derived.Deep.RegionHeld3
import Derived.Test.YtddijpjgkifngaaGreatMN0
namespace Go.Proofs.YtddijpjgkifngaaGreat
open Go.RowKit
set_option linter.unusedVariables false
set_option maxRecDepth 100000
set_option maxHeartbeats 16000000
def But (p : Nat) (w w' : World) : Prop := w'.os = w.os ∧ w'.tape = w.tape ∧ w'.output = w.output ∧ w.heap.size ≤ w'.heap.size ∧ ∀ k, k < w.heap.size → k ≠ p → w'.heap[k]? = w.heap[k]?
theorem But.refl (p : Nat) (w : World) : But p w w := ⟨rfl, rfl, rfl, Nat.le_refl _, fun _ _ _ => rfl⟩
theorem But.trans {p : Nat} {a b c : World} (h : But p a b) (k : But p b c) : But p a c :=
 ⟨k.1.trans h.1, k.2.1.trans h.2.1, k.2.2.1.trans h.2.2.1, Nat.le_trans h.2.2.2.1 k.2.2.2.1, fun i hi hp => (k.2.2.2.2 i (Nat.lt_of_lt_of_le hi h.2.2.2.1) hp).trans (h.2.2.2.2 i hi hp)⟩
theorem But.of_below {p : Nat} {w w' : World} (h : Below w.heap.size w w') : But p w w' := ⟨h.os, h.tape, h.output, h.size, fun k hk _ => h.block k hk⟩
theorem But.setCell {p : Nat} {a w : World} (h : But p a w) (o : Nat) (u : Value) : But p a (w.setCell ⟨p, o, none⟩ u) :=
 ⟨h.1, h.2.1, h.2.2.1, by rw [World.size_setCell]; exact h.2.2.2.1, fun k hk hp => (Below.heap_setCell w ⟨p, o, none⟩ u k hp).trans (h.2.2.2.2 k hk hp)⟩
theorem But.below {p B : Nat} {w w' : World} (h : But p w w') (hB : B ≤ p) (hs : B ≤ w.heap.size) : Below B w w' := ⟨h.1, h.2.1, h.2.2.1, h.2.2.2.1, fun k hk => h.2.2.2.2 k (by omega) (by omega)⟩
theorem But.cell {p k o : Nat} {w w' : World} (h : But p w w') (hk : k < w.heap.size) (hp : k ≠ p) : w'.cell? ⟨k, o, none⟩ = w.cell? ⟨k, o, none⟩ := World.cell?_of_block (w := w) (h.2.2.2.2 k hk hp)
theorem But.frozen {p k o : Nat} {w w' : World} (h : But p w w') (hk : k < w.heap.size) (hp : k ≠ p) : w'.frozen? ⟨k, o, none⟩ = w.frozen? ⟨k, o, none⟩ := World.frozen?_of_block (w := w) (h.2.2.2.2 k hk hp)
def iA (w : World) (B : Nat) (a : Option Addr) (n : Nat) : Prop := n = 0 ∨ ∃ b off, a = some ⟨b, off, none⟩ ∧ b < B ∧ ∀ i, i < n → ∃ z : Int, w.cell? ⟨b, off + i, none⟩ = some (.int .u8 z) ∧ 0 ≤ z ∧ z ≤ 255
theorem iA.below {w w' : World} {B : Nat} {a : Option Addr} {n : Nat} (h : iA w B a n) (hb : Below B w w') : iA w' B a n := by
 rcases h with h | ⟨b, off, h1, h2, h3⟩
 ·exact .inl h
 ·exact .inr ⟨b, off, h1, h2, fun i hi => by
   obtain ⟨z, e, hz⟩ := h3 i hi
   exact ⟨z, by rw [hb.cell (p := ⟨b, off + i, none⟩) h2]; exact e, hz⟩⟩
def dk (w : World) (B p : Nat) (a : Option Addr) (n c i : Nat) (h : Int) : Prop :=
 w.cell? ⟨p, 0, none⟩ = some (.slice a n c) ∧ w.cell? ⟨p, 1, none⟩ = some (.int .i64 i) ∧ w.cell? ⟨p, 2, none⟩ = some (.int .i64 h) ∧
 w.frozen? ⟨p, 0, none⟩ = false ∧ w.frozen? ⟨p, 1, none⟩ = false ∧ w.frozen? ⟨p, 2, none⟩ = false ∧ i ≤ n ∧ n ≤ 1048576 ∧ iA w B a n ∧ B ≤ p ∧ p < w.heap.size
def fD (w : World) (B p : Nat) : Prop := ∃ a n c i h, dk w B p a n c i h
theorem fD.lt {w : World} {B p : Nat} (h : fD w B p) : p < w.heap.size ∧ B ≤ p := by
 obtain ⟨a, n, c, i, hh, h⟩ := h
 exact ⟨h.2.2.2.2.2.2.2.2.2.2, h.2.2.2.2.2.2.2.2.2.1⟩
theorem fD.below {w w' : World} {B p : Nat} (h : fD w B p) (hb : Below w.heap.size w w') : fD w' B p := by
 obtain ⟨a, n, c, i, hh, h0, h1, h2, f0, f1, f2, hi, hn, hc, hB, hp⟩ := h
 refine ⟨a, n, c, i, hh, ?_, ?_, ?_, ?_, ?_, ?_, hi, hn, hc.below (hb.mono (by omega)), hB, Nat.lt_of_lt_of_le hp hb.size⟩
 ·rw [hb.cell (p := ⟨p, 0, none⟩) hp]; exact h0
 ·rw [hb.cell (p := ⟨p, 1, none⟩) hp]; exact h1
 ·rw [hb.cell (p := ⟨p, 2, none⟩) hp]; exact h2
 ·rw [hb.frozen (p := ⟨p, 0, none⟩) hp]; exact f0
 ·rw [hb.frozen (p := ⟨p, 1, none⟩) hp]; exact f1
 ·rw [hb.frozen (p := ⟨p, 2, none⟩) hp]; exact f2
theorem dk.set2 {w : World} {B p : Nat} {a : Option Addr} {n c i : Nat} {h : Int} (hc : dk w B p a n c i h) (k : Int) : dk (w.setCell ⟨p, 2, none⟩ (.int .i64 k)) B p a n c i k := by
 obtain ⟨h0, h1, h2, f0, f1, f2, hi, hn, hcode, hB, hp⟩ := hc
 refine ⟨?_, ?_, ?_, by simpa using f0, by simpa using f1, by simpa using f2, hi, hn, hcode.below ((Below.refl _ _).setCell hB _), hB, by simpa using hp⟩
 ·rw [zO (by simp)]; exact h0
 ·rw [zO (by simp)]; exact h1
 ·exact World.cell?_setCell_same _ _ _ h2
theorem dk.set1 {w : World} {B p : Nat} {a : Option Addr} {n c i : Nat} {h : Int} (hc : dk w B p a n c i h) (k : Nat) (hk : k ≤ n) : dk (w.setCell ⟨p, 1, none⟩ (.int .i64 k)) B p a n c k h := by
 obtain ⟨h0, h1, h2, f0, f1, f2, hi, hn, hcode, hB, hp⟩ := hc
 refine ⟨?_, ?_, ?_, by simpa using f0, by simpa using f1, by simpa using f2, hk, hn, hcode.below ((Below.refl _ _).setCell hB _), hB, by simpa using hp⟩
 ·rw [zO (by simp)]; exact h0
 ·exact World.cell?_setCell_same _ _ _ h1
 ·rw [zO (by simp)]; exact h2
def Byts (w : World) (b off n : Nat) (f : Nat → Int) : Prop := b < w.heap.size ∧ ∀ i, i < n → w.cell? ⟨b, off + i, none⟩ = some (.int .u8 (f i))
theorem Byts.below {w w' : World} {B b off n : Nat} {f : Nat → Int} (h : Byts w b off n f) (hb : Below B w w') (hB : b < B) : Byts w' b off n f :=
 ⟨Nat.lt_of_lt_of_le h.1 hb.size, fun i hi => by rw [hb.cell (p := ⟨b, off + i, none⟩) hB]; exact h.2 i hi⟩
def SrcB (w : World) (a : Option Addr) (n : Nat) (f : Nat → Int) : Prop := n = 0 ∨ ∃ b off, a = some ⟨b, off, none⟩ ∧ Byts w b off n f
theorem SrcB.below {w w' : World} {a : Option Addr} {n : Nat} {f : Nat → Int} (h : SrcB w a n f) (hb : Below w.heap.size w w') : SrcB w' a n f := by
 rcases h with h | ⟨b, off, h1, h2⟩
 ·exact .inl h
 ·exact .inr ⟨b, off, h1, h2.below hb h2.1⟩
theorem Below.nw (w : World) (o : Obj) : Below w.heap.size w (w.alloc o) := (Below.refl _ _).alloc (Nat.le_refl _) _
def Cs (w : World) (b off N : Nat) (F : Nat → Value) : Prop := b < w.heap.size ∧ ∀ j, j < N → w.cell? ⟨b, off + j, none⟩ = some (F j)
theorem Cs.below {w w' : World} {B b off N : Nat} {F : Nat → Value} (h : Cs w b off N F) (hb : Below B w w') (hB : b < B) : Cs w' b off N F :=
 ⟨Nat.lt_of_lt_of_le h.1 hb.size, fun j hj => by rw [hb.cell (p := ⟨b, off + j, none⟩) hB]; exact h.2 j hj⟩
theorem Cs.drew {w : World} {b off N : Nat} {F : Nat → Value} (h : Cs w b off N F) : Cs w.drew b off N F := h
theorem Cs.but {w w' : World} {p b off N : Nat} {F : Nat → Value} (h : Cs w b off N F) (hb : But p w w') (hp : b ≠ p) : Cs w' b off N F :=
 ⟨Nat.lt_of_lt_of_le h.1 hb.2.2.2.1, fun j hj => by rw [hb.cell h.1 hp]; exact h.2 j hj⟩
def ae (w : World) (a : Option Addr) (N : Nat) (F : Nat → Value) : Prop := N = 0 ∨ ∃ b off, a = some ⟨b, off, none⟩ ∧ Cs w b off N F
theorem ae.below {w w' : World} {a : Option Addr} {N : Nat} {F : Nat → Value} (h : ae w a N F) (hb : Below w.heap.size w w') : ae w' a N F := by
 rcases h with h | ⟨b, off, h1, h2⟩
 ·exact .inl h
 ·exact .inr ⟨b, off, h1, h2.below hb h2.1⟩
def ao (w : World) (b : Nat) (T : TypeId) (N m : Nat) (F : Nat → Value) : Prop := ∃ g, w.rowIs b T N g ∧ ∀ j, j < m → g j = F j
theorem ao.lt {w : World} {b N m : Nat} {T : TypeId} {F : Nat → Value} (h : ao w b T N m F) : b < w.heap.size := by obtain ⟨g, hr, _⟩ := h; exact hr.lt
theorem ao.below {w w' : World} {B b N m : Nat} {T : TypeId} {F : Nat → Value} (hb : Below B w w') (hB : b < B) (h : ao w b T N m F) : ao w' b T N m F := by
 obtain ⟨g, hr, hg⟩ := h
 exact ⟨g, hr.of_block (hb.block b hB), hg⟩
theorem ao.below' {w w' : World} {b N m : Nat} {T : TypeId} {F : Nat → Value} (hb : Below w.heap.size w w') (h : ao w b T N m F) : ao w' b T N m F := ao.below hb h.lt h
theorem ao.zero {w : World} {b N m : Nat} {T : TypeId} {F : Nat → Value} (h : ao w b T N m F) (G : Nat → Value) : ao w b T N 0 G := by
 obtain ⟨g, hr, hg⟩ := h
 exact ⟨g, hr, fun j hj => absurd hj (Nat.not_lt_zero _)⟩
theorem ao.facts {w : World} {b N m : Nat} {T : TypeId} {F : Nat → Value} (h : ao w b T N m F) (j : Nat) (hj : j < N) : (∃ v, w.cell? ⟨b, j, none⟩ = some v) ∧ w.frozen? ⟨b, j, none⟩ = false := by
 obtain ⟨g, hr, hg⟩ := h
 exact ⟨⟨_, hr.cell hj⟩, hr.frozen _⟩
theorem ao.put {w : World} {b N m : Nat} {T : TypeId} {F : Nat → Value} (h : ao w b T N m F) (m' : Nat) (hm : m' = m + 1) {v : Value} (hv : F m = v) : ao (w.setCell ⟨b, m, none⟩ v) b T N m' F := by
 obtain ⟨g, hr, hg⟩ := h
 refine ⟨_, hr.set _ _, fun j hj => ?_⟩
 by_cases e : j = m
 ·subst e; simp only [if_true]; exact hv.symm
 ·simp only [if_neg e]; exact hg j (by omega)
theorem ao.setO {w : World} {b N m : Nat} {T : TypeId} {F : Nat → Value} (h : ao w b T N m F) {k : Nat} (hk : k ≠ b) (o : Nat) (u : Value) : ao (w.setCell ⟨k, o, none⟩ u) b T N m F := by
 obtain ⟨g, hr, hg⟩ := h
 exact ⟨g, hr.setOther (fun e => hk e.symm) u, hg⟩
theorem ao.cs {w : World} {b N m : Nat} {T : TypeId} {F : Nat → Value} (h : ao w b T N m F) (hm : m ≤ N) : Cs w b 0 m F := by
 obtain ⟨g, hr, hg⟩ := h
 exact ⟨hr.lt, fun j hj => by rw [Nat.zero_add, hr.cell (by omega), hg j hj]⟩
theorem ao.eqm {w : World} {b N m m' : Nat} {T : TypeId} {F : Nat → Value} (h : ao w b T N m F) (e : m = m') : ao w b T N m' F := e ▸ h
theorem bD {w : World} {base : Nat} {T : TypeId} {s g n cap : Nat} {xs : List Value} (F : Nat → Value) (h : w.ownsRow base T s (.slice (some ⟨g, 0, none⟩) n cap) n xs) : base ≤ g ∧ n ≤ cap ∧ cap ≤ maxLen ∧ ao w g T (cap * s) 0 F := by
 rcases h.2 with ⟨h, _⟩ | ⟨g', cap', cur, he, h2, h3, h4, h5, h6, h7⟩
 ·simp at h
 ·simp at he
  obtain ⟨rfl, rfl⟩ := he
  exact ⟨h2, h4, h5, _, ⟨cur, h3, by omega, fun i hi => by rw [Array.getElem?_eq_getElem (by omega)]; exact congrArg some (by rw [Array.getD_eq_getD_getElem?, Array.getElem?_eq_getElem (by omega)]; rfl : cur[i]'(by omega) = cur.getD i undef)⟩, fun j hj => absurd hj (Nat.not_lt_zero _)⟩
theorem aS {w : World} {base : Nat} {T : TypeId} {s n : Nat} {v : Value} {F : Nat → Value} (h : w.ownsRow base T s v n ((List.range (n * s)).map F)) :
 ∃ a c, v = .slice a n c ∧ n ≤ c ∧ c ≤ maxLen ∧ ae w a (n * s) F := by
 rcases h.2 with ⟨rfl, h0⟩ | ⟨g, cap, cur, rfl, hb, hg, hc, hm, hs, ht⟩
 ·exact ⟨none, 0, by rw [h0], by omega, by simp [maxLen], .inl (by rw [h0, Nat.zero_mul])⟩
 ·refine ⟨_, cap, rfl, hc, hm, .inr ⟨g, 0, rfl, (Array.getElem?_eq_some_iff.1 hg).1, fun i hi => ?_⟩⟩
  have hu : ((List.range (n * s)).map F)[i]? = some (F i) := by simp [hi]
  rw [← ht, List.getElem?_take, if_pos (by omega)] at hu
  simp [World.cell?, hg]
  simpa using hu
theorem jD (F : Nat → Value) (n s : Nat) : (List.range ((n + 1) * s)).map F = (List.range (n * s)).map F ++ (List.range s).map fun j => F (n * s + j) := by
 rw [Nat.succ_mul, List.range_add, List.map_append, List.map_map]
 rfl
def cy (K : Nat) (s : ByteArray) : ByteArray := if h : K = 0 then s else cy (K / 10) (strOfNums [48 + (K : Int) % 10] ++ s)
termination_by K
decreasing_by omega
def txt (k : Int) : ByteArray := strOfNums [109] ++ cy k.toNat ⟨#[]⟩
theorem j0 {K : Nat} {s : ByteArray} (h : K ≠ 0) : cy K s = cy (K / 10) (strOfNums [48 + (K : Int) % 10] ++ s) := by rw [cy, dif_neg h]
theorem jn {s : ByteArray} : cy 0 s = s := by rw [cy, dif_pos rfl]
theorem cv (k : Int) (w : World) (h0 : 0 < k) (h1 : k ≤ 1099511627776) :
 Calls Tryz.prog 122 #[.int .i64 k] w fun e w' => e = .returned (.string (txt k)) ∧ Below w.heap.size w w' := by
 obtain ⟨K0, rfl⟩ := Int.eq_ofNat_of_zero_le (show 0 ≤ k by omega)
 have HX : Hid (txt (K0 : Int) = strOfNums [109] ++ cy K0 ⟨#[]⟩) := rfl
 have hne : ¬ (K0 : Int) ≤ 0 := by omega
 go_enter Tryz.func122, Tryz.ntmps122
 go_wp2_with fail
 go_loopw [0, 3] (fun kv s wr => ∃ (K : Nat) (o : ByteArray), kv = .int .i64 K ∧ K ≤ K0 ∧ s = .string o ∧ o.size + K ≤ K0 ∧ cy K o = cy K0 ⟨#[]⟩ ∧ Below w.heap.size w wr) (fun kv _ _ => (intOf kv).toNat)
 case atStart => exact ⟨K0, ⟨#[]⟩, rfl, Nat.le_refl _, rfl, by simp [ByteArray.size], rfl, Below.refl _ _⟩
 case round =>
  obtain ⟨K, o, rfl, hK, rfl, hos, hd, hB⟩ := hrel
  have HD : Hid (cy K o = cy K0 ⟨#[]⟩) := hd
  clear hd
  by_cases hz : K = 0
  ·subst hz
   have hE : o = cy K0 ⟨#[]⟩ := by rw [← HD.out, jn]
   have hle : ¬ 9223372036854775807 < 1 + o.size := by omega
   subst hE
   go_wp2_with fail
   go_ret
   exact ⟨by rw [HX.out]; rfl, hB⟩
  ·have hz' : 0 < (K : Int) := by omega
   have hq : Int.tdiv (K : Int) 10 = ((K / 10 : Nat) : Int) := by rw [Int.tdiv_eq_ediv_of_nonneg (by omega)]; omega
   have hw8 : IntKind.u8.wrap (48 + (K : Int) % 10) = 48 + (K : Int) % 10 := Go.IntWalk.u8_in _ ⟨by omega, by omega⟩
   have HG := j0 (s := o) hz
   have hcv : (convert 217 9 (.slice (some ⟨wr.heap.size, 0, none⟩) 1 1)).run Tryz.prog (wr.alloc (.cells #[.int .u8 (48 + (K : Int) % 10)] 5)) = .ok (.string (strOfNums [48 + (K : Int) % 10])) (wr.alloc (.cells #[.int .u8 (48 + (K : Int) % 10)] 5)) :=
    run_convert_bytes_arg _ 217 5 Tryz.underlying217 Tryz.underlying5 wr.heap.size 0 1 1 [48 + (K : Int) % 10] rfl (fun i hi => by (obtain rfl : i = 0 := by omega); simp) 9 Tryz.underlying9
   have hle : ¬ 9223372036854775807 < (strOfNums [48 + (K : Int) % 10]).size + o.size := by rw [strOfNums_size]; simp; omega
   have hz1 : (strOfNums [48 + (K : Int) % 10] ++ o).size = 1 + o.size := by rw [ByteArray.size_append, strOfNums_size]; rfl
   go_wp2_with fail
   go_roundw
   case rel => exact ⟨K / 10, _, by simp, by omega, rfl, by rw [hz1]; omega, by rw [← HG]; exact HD.out, hB.alloc hB.size _⟩
   case measure => simp [intOf]; omega
def aX (q0 : Int) (c : Nat) : Value := if c % 6 = 5 then .string (txt (q0 + (c : Int))) else .int .i64 (q0 + (c : Int))
theorem bp {q0 : Int} {k j : Nat} {x : Int} (hj : j < 6) (hs : j ≠ 5) (h : x = q0 + ((k * 6 + j : Nat) : Int)) : aX q0 (k * 6 + j) = .int .i64 x := by
 have e : (k * 6 + j) % 6 = j := by omega
 rw [aX, e, if_neg (by omega), h]
theorem ii {q0 : Int} {k j : Nat} {x : Int} (hj : j < 6) (hs : j = 5) (h : x = q0 + ((k * 6 + j : Nat) : Int)) : aX q0 (k * 6 + j) = .string (txt x) := by
 have e : (k * 6 + j) % 6 = j := by omega
 rw [aX, e, if_pos (by omega), h]
theorem cE (a : Option Addr) (c : Nat) (q0 : Int) (w : World) :
 Calls Tryz.prog 68 #[.slice a 0 c, .int .i64 q0] w fun e w' => e = .returned (.int .i64 q0) ∧ w = w' := by
 go_enter Tryz.func68, Tryz.ntmps68
 go_wp2_with fail
 go_loopw [1, 5] (fun q i wr => i = .int .i64 0 ∧ q = .int .i64 q0 ∧ w = wr) (fun _ i _ => 0)
 case atStart => exact ⟨rfl, rfl, by first | rfl | trivial⟩
 case round =>
  obtain ⟨rfl, rfl, rfl⟩ := hrel
  go_wp2_with fail
  go_ret
  exact ⟨rfl, rfl⟩
end Go.Proofs.YtddijpjgkifngaaGreat
