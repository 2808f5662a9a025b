/- What the laws keep; rows of numbers, of intervals and of peers, told b -/
import Derived.Test.YtikbjljkakabdaaGreatMB4
namespace Go.Proofs.YtikbjljkakabdaaGreat
open Go.RowKit
set_option linter.unusedVariables false
set_option maxRecDepth 100000
set_option maxHeartbeats 16000000
theorem But.grK {w w' : World} {q : Nat} (h : But q w w') : w.grownBy w' (some q) := ⟨h.1, h.2.1, h.2.2.1, h.2.2.2.1, fun k hk hp => h.2.2.2.2 k hk (fun e => hp (by rw [e]))⟩
theorem But.ofGrownK {w w' : World} {q : Nat} (h : w.grownBy w' (some q)) : But q w w' := ⟨h.os, h.tape, h.output, h.size, fun k hk hq => h.block k hk (fun e => hq (by simpa using e))⟩
def jT (w : World) (a : Option Addr) (m : Nat) (F : Nat → Value) (L : Nat) : Prop := m = 0 ∨ ∃ b off, a = some ⟨b, off, none⟩ ∧ b < L ∧ Cs w b off m F
theorem jT.src {w : World} {a : Option Addr} {m L : Nat} {F : Nat → Value} (h : jT w a m F L) : az w a m F := by
 rcases h with h | ⟨b, off, h1, _, h2⟩
 ·exact .inl h
 ·exact .inr ⟨b, off, h1, h2⟩
theorem jT.below {w w' : World} {a : Option Addr} {m L : Nat} {F : Nat → Value} (h : jT w a m F L) (hb : Below w.heap.size w w') : jT w' a m F L := by
 rcases h with h | ⟨b, off, h1, h3, h2⟩
 ·exact .inl h
 ·exact .inr ⟨b, off, h1, h3, h2.below hb h2.1⟩
theorem Cs.kept {w w' : World} {o : Option Nat} {b off N : Nat} {F : Nat → Value} (h : Cs w b off N F) (hg : w.grownBy w' o) (hne : some b ≠ o) : Cs w' b off N F :=
 ⟨Nat.lt_of_lt_of_le h.1 hg.size, fun j hj => by
  have := hg.block b h.1 hne
  have q := h.2 j hj
  simp only [World.cell?] at q ⊢
  rw [this]; exact q⟩
theorem jT.kept {w w' : World} {o : Option Nat} {a : Option Addr} {m L : Nat} {F : Nat → Value} (h : jT w a m F L) (hg : w.grownBy w' o) (hne : ∀ b, b < L → some b ≠ o) : jT w' a m F L := by
 rcases h with h | ⟨b, off, h1, h3, h2⟩
 ·exact .inl h
 ·exact .inr ⟨b, off, h1, h3, h2.kept hg (hne b h3)⟩
theorem az.keptK {w w' : World} {o : Option Nat} {a : Option Addr} {m : Nat} {F : Nat → Value} (h : az w a m F) (hg : w.grownBy w' o) (hne : ∀ b off, a = some ⟨b, off, none⟩ → some b ≠ o) : az w' a m F := by
 rcases h with h | ⟨b, off, h1, h2⟩
 ·exact .inl h
 ·exact .inr ⟨b, off, h1, h2.kept hg (hne b off h1)⟩
theorem cB {w w' : World} {o : Option Nat} {b i : Nat} (hg : w.grownBy w' o) (hb : b < w.heap.size) (hne : some b ≠ o) : w'.cell? ⟨b, i, none⟩ = w.cell? ⟨b, i, none⟩ := by
 have := hg.block b hb hne
 simp only [World.cell?]
 rw [this]
theorem io {w w' : World} {o : Option Nat} {B : Nat} (hg : w.grownBy w' o) (hB : B ≤ w.heap.size) (hne : ∀ b, b < B → some b ≠ o) : Below B w w' := ⟨hg.os, hg.tape, hg.output, hg.size, fun k hk => hg.block k (by omega) (hne k hk)⟩
theorem il {w w' : World} (h : Below w.heap.size w w') : w.grownBy w' none := ⟨h.os, h.tape, h.output, h.size, fun k hk _ => h.block k hk⟩
theorem rk {w w' : World} {base p : Nat} {e : TypeId} {size : Nat} {v : Value} {n : Nat} {xs : List Value} (h : w.ownsRow base e size v n xs) (hb : But p w w') (hp : ∀ g, v.ownBlock = some g → g ≠ p) : w'.ownsRow base e size v n xs := by
 refine World.ownsRow.kept h hb.grK ?_
 cases hv : v.ownBlock with
 | none => exact .inl rfl
 | some k =>
  right
  intro e
  injection e with e
  exact hp k hv e
theorem qz {w w' : World} {base p : Nat} {e : TypeId} {size : Nat} {v : Value} {n : Nat} {xs : List Value} (h : w.ownsRow base e size v n xs) (hb : But p w w') (hp : p < base) : w'.ownsRow base e size v n xs :=
 rk h hb fun g hg e => by have := (World.ownsRow.lt h g hg).1; omega
theorem qy {w w' : World} {B base : Nat} {e : TypeId} {size : Nat} {v : Value} {n : Nat} {xs : List Value} (h : w.ownsRow base e size v n xs) (hb : Below B w w') (hlt : ∀ g, v.ownBlock = some g → g < B) : w'.ownsRow base e size v n xs := by
 refine ⟨h.1, ?_⟩
 rcases h.2 with h | ⟨g, cap, cur, rfl, h2, h3, h4⟩
 ·exact .inl h
 ·exact .inr ⟨g, cap, cur, rfl, h2, (hb.block g (hlt g rfl)).trans h3, h4⟩
theorem aG {w w' : World} {base : Nat} {e : TypeId} {size : Nat} {v : Value} {n : Nat} {xs : List Value} (h : w.ownsRow base e size v n xs) (hb : Below w.heap.size w w') : w'.ownsRow base e size v n xs := qy h hb fun g hg => (World.ownsRow.lt h g hg).2
theorem aJ {w w' : World} {base : Nat} {e : TypeId} {size : Nat} {v : Value} {n : Nat} {xs : List Value} (h : w.ownsRow base e size v n xs) (hg : w.grownBy w' v.ownBlock) (hs : base ≤ w.heap.size) : Below base w w' :=
 ⟨hg.os, hg.tape, hg.output, hg.size, fun k hk => hg.block k (by omega) (fun he => by have := (World.ownsRow.lt h k he.symm).1; omega)⟩
theorem qs {p q : Option Nat} (h : ∀ g, p = some g → q ≠ some g) : q = none ∨ q ≠ p := by
 cases q with
 | none => exact .inl rfl
 | some k => exact .inr fun e => h k e.symm rfl
def nD (f : Nat → Int) (c : Nat) : Value := .int .i64 (f c)
abbrev VT : Type := Int × Int
def zV : VT := (0, 0)
def fG (M : VT) : Nat → Value
 | 0 => .int .i64 M.1
 | _ => .int .i64 M.2
def au (M : Nat → VT) (c : Nat) : Value := fG (M (c / 2)) (c % 2)
theorem cy (M : Nat → VT) (k j : Nat) (hj : j < 2) : au M (k * 2 + j) = fG (M k) j := by
 have h1 : (k * 2 + j) / 2 = k := by omega
 have h2 : (k * 2 + j) % 2 = j := by omega
 rw [au, h1, h2]
theorem eN {M : Nat → VT} {k : Nat} {x0 : Int} {x1 : Int} (hM : M k = (x0, x1)) : au M (k * 2) = .int .i64 x0 ∧ au M (k * 2 + 1) = .int .i64 x1 :=
 ⟨by have q := cy M k 0 (by decide); rw [hM] at q; exact q, by have q := cy M k 1 (by decide); rw [hM] at q; exact q⟩
theorem Cs.elIval {w : World} {b off n k : Nat} {M : Nat → VT} {x0 : Int} {x1 : Int} (h : Cs w b off (n * 2) (au M)) (hk : k < n) (hM : M k = (x0, x1)) : w.cell? ⟨b, off + k * 2, none⟩ = some (.int .i64 x0) ∧ w.cell? ⟨b, off + k * 2 + 1, none⟩ = some (.int .i64 x1) := by
 obtain ⟨q0, q1⟩ := eN hM
 exact ⟨by have := h.2 (k * 2) (by omega); rw [q0] at this; exact this, by have := h.2 (k * 2 + 1) (by omega); rw [q1] at this; exact this⟩
theorem dm (M : Nat → VT) (k : Nat) : ∃ (x0 : Int) (x1 : Int), M k = (x0, x1) := ⟨_, _, rfl⟩
theorem kI : (Tryz.prog.info? 47).map (fun i => (i.zero, i.size, i.bytes)) = some (some (.agg #[.int .i64 0, .int .i64 0]), 2, 16) := by kernel_rfl
def bW (q : Int) (c : Nat) : Value := .int .i64 (q + (c : Int))
theorem d7 {q : Int} {k j : Nat} {x : Int} (h : x = q + ((k * 2 + j : Nat) : Int)) : bW q (k * 2 + j) = .int .i64 x := by rw [bW, h]
theorem gR (a : Option Addr) (n c base : Nat) (q0 : Int) (xs : List Value) (w : World) (hn : n ≤ 1048576) (hq : 0 < q0) (hq1 : q0 ≤ 1073741824) (h : w.ownsRow base 154 5 (.slice a n c) n xs) :
 Calls Tryz.prog 55 #[.slice a n c, .int .i64 q0] w fun e w' => e = .returned (.int .i64 (q0 + (n : Int) * 5)) ∧ az w' a (n * 5) (bA q0) ∧ w.grownBy w' (Value.slice a n c).ownBlock := by
 rcases h.2 with ⟨he, h0⟩ | ⟨g, cap, cur, he, _⟩
 ·simp at he
  obtain ⟨rfl, rfl, rfl⟩ := he
  exact (gh none 0 q0 w).mono fun e w' ⟨h1, h2⟩ => ⟨by rw [h1]; simp, .inl (by omega), h2 ▸ il (Below.refl _ _)⟩
 ·simp at he
  obtain ⟨rfl, rfl⟩ := he
  obtain ⟨h1, h2, _, h3⟩ := d9 (bA q0) h
  exact (gS g (c * 5) n c q0 w hn hq hq1 (Nat.mul_le_mul_right _ h2) h3).mono fun e w' ⟨r1, r2, r3⟩ => ⟨r1, .inr ⟨g, 0, rfl, r2.cs (Nat.mul_le_mul_right _ h2)⟩, r3.grK⟩
def gI (L : List Int) (i : Nat) : Int := L.getD i 0
def bx (L : List Int) : List Value := (List.range (L.length * 1)).map (nD (gI L))
theorem sc {L : List Int} {p : Int} {i : Nat} (h : i < L.length) : gI (L ++ [p]) i = gI L i := by rw [gI, gI, List.getD_eq_getElem?_getD, List.getD_eq_getElem?_getD, List.getElem?_append_left h]
theorem sb (L : List Int) (p : Int) : gI (L ++ [p]) L.length = p := by rw [gI, List.getD_eq_getElem?_getD, List.getElem?_append_right (Nat.le_refl _), Nat.sub_self]; rfl
theorem oQ (L : List Int) (p : Int) : bx (L ++ [p]) = bx L ++ [.int .i64 p] := by
 rw [bx, List.length_append, show [p].length = 1 from rfl, fY, bx]
 congr 1
 ·refine List.map_congr_left fun c hc => ?_
  have hc' : c < L.length * 1 := List.mem_range.1 hc
  show Value.int .i64 (gI (L ++ [p]) c) = .int .i64 (gI L c)
  rw [sc (by omega)]
 ·show [Value.int .i64 (gI (L ++ [p]) (L.length * 1 + 0))] = [.int .i64 p]
  rw [Nat.mul_one, Nat.add_zero, sb]
def gV (L : List VT) (i : Nat) : VT := L.getD i zV
def cF (L : List VT) : List Value := (List.range (L.length * 2)).map (au (gV L))
theorem sh {L : List VT} {p : VT} {i : Nat} (h : i < L.length) : gV (L ++ [p]) i = gV L i := by rw [gV, gV, List.getD_eq_getElem?_getD, List.getD_eq_getElem?_getD, List.getElem?_append_left h]
theorem sg (L : List VT) (p : VT) : gV (L ++ [p]) L.length = p := by rw [gV, List.getD_eq_getElem?_getD, List.getElem?_append_right (Nat.le_refl _), Nat.sub_self]; rfl
theorem px (L : List VT) (p : VT) : cF (L ++ [p]) = cF L ++ [.int .i64 p.1, .int .i64 p.2] := by
 rw [cF, List.length_append, show [p].length = 1 from rfl, fY, cF]
 congr 1
 ·refine List.map_congr_left fun c hc => ?_
  have hc' : c < L.length * 2 := List.mem_range.1 hc
  show fG (gV (L ++ [p]) (c / 2)) _ = fG (gV L (c / 2)) _
  rw [sh (by omega)]
 ·show [au (gV (L ++ [p])) (L.length * 2 + 0), au (gV (L ++ [p])) (L.length * 2 + 1)] = _
  rw [cy _ _ 0 (by decide), cy _ _ 1 (by decide), sg]
  rfl
def gP (L : List PT) (i : Nat) : PT := L.getD i zP
def bP (L : List PT) : List Value := (List.range (L.length * 5)).map (am (gP L))
theorem sf {L : List PT} {p : PT} {i : Nat} (h : i < L.length) : gP (L ++ [p]) i = gP L i := by rw [gP, gP, List.getD_eq_getElem?_getD, List.getD_eq_getElem?_getD, List.getElem?_append_left h]
theorem sd (L : List PT) (p : PT) : gP (L ++ [p]) L.length = p := by rw [gP, List.getD_eq_getElem?_getD, List.getElem?_append_right (Nat.le_refl _), Nat.sub_self]; rfl
theorem oW (L : List PT) (p : PT) : bP (L ++ [p]) = bP L ++ [.int .i64 p.1, .int .i64 p.2.1, .int .i64 p.2.2.1, .int .i64 p.2.2.2.1, .bool p.2.2.2.2] := by
 rw [bP, List.length_append, show [p].length = 1 from rfl, fY, bP]
 congr 1
 ·refine List.map_congr_left fun c hc => ?_
  have hc' : c < L.length * 5 := List.mem_range.1 hc
  show en (gP (L ++ [p]) (c / 5)) _ = en (gP L (c / 5)) _
  rw [sf (by omega)]
 ·show [am (gP (L ++ [p])) (L.length * 5 + 0), am (gP (L ++ [p])) (L.length * 5 + 1), am (gP (L ++ [p])) (L.length * 5 + 2), am (gP (L ++ [p])) (L.length * 5 + 3), am (gP (L ++ [p])) (L.length * 5 + 4)] = _
  rw [bw _ _ 0 (by decide), bw _ _ 1 (by decide), bw _ _ 2 (by decide), bw _ _ 3 (by decide), bw _ _ 4 (by decide), sd]
  rfl
def Prs (w : World) (b off n : Nat) (f : Nat → Int × Int) : Prop :=
 b < w.heap.size ∧ ∀ i, i < n → w.cell? ⟨b, off + i * 2, none⟩ = some (.int .i64 (f i).1) ∧ w.cell? ⟨b, off + i * 2 + 1, none⟩ = some (.int .i64 (f i).2)
theorem Prs.below {w w' : World} {B b off n : Nat} {f : Nat → Int × Int} (h : Prs w b off n f) (hb : Below B w w') (hB : b < B) : Prs w' b off n f :=
 ⟨Nat.lt_of_lt_of_le h.1 hb.size, fun i hi => ⟨by rw [hb.cell (p := ⟨b, off + i * 2, none⟩) hB]; exact (h.2 i hi).1, by rw [hb.cell (p := ⟨b, off + i * 2 + 1, none⟩) hB]; exact (h.2 i hi).2⟩⟩
def be (f : Nat → Int × Int) : Nat → Bool
 | 0 => true
 | n + 1 => be f n && okI (f n).1 (f n).2
theorem fI {f : Nat → Int × Int} {k : Nat} (h : okI (f k).1 (f k).2 = false) : ∀ n, k < n → be f n = false
 | 0, hn => absurd hn (Nat.not_lt_zero _)
 | n + 1, hn => by
  rcases Nat.lt_succ_iff_lt_or_eq.1 hn with h1 | h1
  ·simp [be, fI h n h1]
  ·subst h1; simp [be, h]
def RowK (w : World) (b t n k : Nat) (f : Nat → Int × Int) : Prop := ∃ g, w.rowIs b t (n * 2) g ∧ ∀ j, j < k → g (j * 2) = .int .i64 (f j).1 ∧ g (j * 2 + 1) = .int .i64 (f j).2
theorem RowK.below {w w' : World} {B b t n k : Nat} {f : Nat → Int × Int} (h : RowK w b t n k f) (hb : Below B w w') (hB : b < B) : RowK w' b t n k f := by
 obtain ⟨g, hr, hg⟩ := h
 exact ⟨g, hr.of_block (hb.block b hB), hg⟩
end Go.Proofs.YtikbjljkakabdaaGreat
namespace Go.Proofs.YtikbjljkakabdaaGreat
open Go.RowKit
set_option linter.unusedVariables false
set_option maxRecDepth 100000
set_option maxHeartbeats 16000000
def acc (B : Int → Int → Int → Int → Bool) (X Y : Int → Int → Int) (f : Nat → Int × Int) : Nat → Bool × Int × Int
 | 0 => (okI (f 0).1 (f 0).2, sel (okI (f 0).1 (f 0).2) (f 0).1, sel (okI (f 0).1 (f 0).2) (f 0).2)
 | k + 1 =>
  (
   (acc B X Y f k).1 && B (acc B X Y f k).2.1 (acc B X Y f k).2.2 (f (k + 1)).1 (f (k + 1)).2,
   sel ((acc B X Y f k).1 && B (acc B X Y f k).2.1 (acc B X Y f k).2.2 (f (k + 1)).1 (f (k + 1)).2) (X (acc B X Y f k).2.1 (f (k + 1)).1),
   sel ((acc B X Y f k).1 && B (acc B X Y f k).2.1 (acc B X Y f k).2.2 (f (k + 1)).1 (f (k + 1)).2) (Y (acc B X Y f k).2.2 (f (k + 1)).2))
section
variable {B : Int → Int → Int → Int → Bool} {X Y : Int → Int → Int} {f : Nat → Int × Int}
theorem pB : ∀ {m : Nat}, (acc B X Y f m).1 = false → acc B X Y f m = (false, 0, 0)
 | 0, h => by simp only [acc] at h ⊢; rw [h]; rfl
 | m + 1, h => by simp only [acc] at h ⊢; rw [h]; rfl
theorem pA {k : Nat} (h : (acc B X Y f k).1 = false) : ∀ m, k ≤ m → (acc B X Y f m).1 = false
 | 0, hm => by
  have : k = 0 := by omega
  subst this; exact h
 | m + 1, hm => by
  by_cases e : k = m + 1
  ·subst e; exact h
  ·simp [acc, pA h m (by omega)]
theorem jU {k : Nat} {x y : Int} (h : acc B X Y f k = (true, x, y)) : acc B X Y f (k + 1) = (B x y (f (k + 1)).1 (f (k + 1)).2, sel (B x y (f (k + 1)).1 (f (k + 1)).2) (X x (f (k + 1)).1), sel (B x y (f (k + 1)).1 (f (k + 1)).2) (Y y (f (k + 1)).2)) := by
 simp [acc, h]
end
end Go.Proofs.YtikbjljkakabdaaGreat
namespace Go.Proofs.YtikbjljkakabdaaGreat
open Go.RowKit
set_option linter.unusedVariables false
set_option maxRecDepth 100000
set_option maxHeartbeats 16000000
def eX (B : Int → Int → Int → Int → Bool) (X Y : Int → Int → Int) (f : Nat → Int × Int) (n : Nat) : Bool × Int × Int := if 1 ≤ n ∧ n ≤ 64 then acc B X Y f (n - 1) else (false, 0, 0)
theorem nG {B : Int → Int → Int → Int → Bool} {X Y : Int → Int → Int} {f : Nat → Int × Int} {n : Nat} (h : 1 ≤ n ∧ n ≤ 64) : eX B X Y f n = acc B X Y f (n - 1) := if_pos h
theorem jX {B : Int → Int → Int → Int → Bool} {X Y : Int → Int → Int} {f : Nat → Int × Int} {n : Nat} (h : ¬ (1 ≤ n ∧ n ≤ 64)) : eX B X Y f n = (false, 0, 0) := if_neg h
def Src (w : World) (a : Option Addr) (n : Nat) (f : Nat → Int × Int) : Prop := n = 0 ∨ ∃ b off, a = some ⟨b, off, none⟩ ∧ Prs w b off n f
theorem Src.below {w w' : World} {a : Option Addr} {n : Nat} {f : Nat → Int × Int} (h : Src w a n f) (hb : Below w.heap.size w w') : Src w' a n f := by
 rcases h with h | ⟨b, off, h1, h2⟩
 ·exact .inl h
 ·exact .inr ⟨b, off, h1, h2.below hb h2.1⟩
def prs (L : List (Int × Int)) : List Value := L.flatMap fun p => [.int .i64 p.1, .int .i64 p.2]
theorem jj (L : List (Int × Int)) (x y : Int) : prs (L ++ [(x, y)]) = prs L ++ [.int .i64 x, .int .i64 y] := by simp [prs]
theorem cz {w w' : World} {base : Nat} {e : TypeId} {size : Nat} {v : Value} {n : Nat} {xs : List Value} (h : w.ownsRow base e size v n xs) (hb : Below w.heap.size w w') : w'.ownsRow base e size v n xs :=
 h.kept (row := none) ⟨hb.os, hb.tape, hb.output, hb.size, fun k hk _ => hb.block k hk⟩ (by
  cases hv : v.ownBlock with
  | none => exact .inl rfl
  | some g => exact .inr (by simp))
theorem fy {w : World} {base : Nat} {e : TypeId} {size : Nat} {v : Value} {n : Nat} {xs : List Value} (h : w.ownsRow base e size v n xs) {k : Nat} (hk : ∀ g, v.ownBlock = some g → g ≠ k) (o : Nat) (u : Value) : (w.setCell ⟨k, o, none⟩ u).ownsRow base e size v n xs :=
 ownsRow_setCell_other h (by
  cases hv : v.ownBlock with
  | none => simp
  | some g => simp; exact hk g hv) u
theorem aN {w w' : World} {base : Nat} {e : TypeId} {size : Nat} {v : Value} {n : Nat} {xs : List Value} (h : w.ownsRow base e size v n xs) (hg : w.grownBy w' v.ownBlock) (hb : base ≤ w.heap.size) : Below base w w' :=
 ⟨hg.os, hg.tape, hg.output, hg.size, fun k hk => hg.block k (by omega) (fun he => by have := (h.lt k he.symm).1; omega)⟩
theorem jh (w : World) (a b : Int) (T : TypeId) (j : Nat) (u : Value) (h : [Value.int .i64 a, Value.int .i64 b][j]? = some u) : (w.alloc (.cells #[.int .i64 a, .int .i64 b] T)).cell? ((⟨w.heap.size, 0, none⟩ : Addr).add j) = some u := by
 match j, h with
 | 0, h => simp at h; subst h; simp [Addr.add]
 | 1, h => simp at h; subst h; simp [Addr.add]
theorem qx {w : World} {base base' : Nat} {e : TypeId} {size : Nat} {v : Value} {n : Nat} {xs : List Value} (h : w.ownsRow base e size v n xs) (hb : base' ≤ base) : w.ownsRow base' e size v n xs := by
 refine ⟨h.1, ?_⟩
 rcases h.2 with h | ⟨g, cap, cur, h1, h2, h3⟩
 ·exact .inl h
 ·exact .inr ⟨g, cap, cur, h1, by omega, h3⟩
theorem jk (L : List (Int × Int)) (i : Nat) (hi : i < L.length) : (prs L)[i * 2]? = some (.int .i64 (L.getD i (0, 0)).1) ∧ (prs L)[i * 2 + 1]? = some (.int .i64 (L.getD i (0, 0)).2) := by
 induction L generalizing i with
 | nil => simp at hi
 | cons p L ih =>
  cases i with
  | zero => simp [prs]
  | succ i =>
   have := ih i (by simpa using hi)
   have e : prs (p :: L) = .int .i64 p.1 :: .int .i64 p.2 :: prs L := by simp [prs]
   rw [e, show (i + 1) * 2 = i * 2 + 1 + 1 by omega]
   simpa using this
theorem fz {w : World} {base : Nat} {T : TypeId} {v : Value} {L : List (Int × Int)} (h : w.ownsRow base T 2 v L.length (prs L)) :
 ∃ a c, v = .slice a L.length c ∧ L.length ≤ c ∧ c ≤ maxLen ∧ Src w a L.length (fun i => L.getD i (0, 0)) := by
 rcases h.2 with ⟨rfl, h0⟩ | ⟨g, cap, cur, rfl, hb, hg, hc, hm, hs, ht⟩
 ·exact ⟨none, 0, by rw [h0], by omega, by simp [maxLen], .inl h0⟩
 ·refine ⟨_, cap, rfl, hc, hm, .inr ⟨g, 0, rfl, (Array.getElem?_eq_some_iff.1 hg).1, fun i hi => ?_⟩⟩
  have ⟨h1, h2⟩ := jk L i hi
  have hcell : ∀ j u, j < L.length * 2 → (prs L)[j]? = some u → w.cell? ⟨g, j, none⟩ = some u := by
   intro j u hj hu
   rw [← ht, List.getElem?_take, if_pos hj] at hu
   simp [World.cell?, hg] 
   simpa using hu
  exact ⟨by simpa using hcell (i * 2) _ (by omega) h1, by simpa using hcell (i * 2 + 1) _ (by omega) h2⟩
end Go.Proofs.YtikbjljkakabdaaGreat
